/-
  No cell of these rows narrows 'for every input' (looked for: loops, veiled, ifaces, maps, wideKeys, modest, calm, conditions, laid).
  DERIVED. THE GIVEN ROWS OF THIS SEAT. 8 by the template 'for every input the law returns true; each argument reads behind the call as it read before'; 0 by the template 'total and deterministic' (their statements: YtfihmcpigbpgpaaTotals.lean).
  GIVEN WITH THE SEED: the statements are not yours to turn. If you find one false, say at which input.
  Laid BY PROGRAM, IN A SANDBOX (cutbox-rows.mjs): the forced cells as the released guide's own fill.sh prints them over the translation cc87e12fc28c2d13… (all of the seat's roots in one cut). By AI agents, Wed Nov 11 2026. No macro, syntax, notation, axiom, sorry.
-/
import Derived.Test.YtfihmcpigbpgpaaChecked
import GoSem.Claim
import GoSem.ClaimJoined
import GoSem.ClaimMapViews
import Derived.JoinedTies
import Derived.KernelRfl
namespace Go.Proofs.Ytfihmcpigbpgpaa
/- THE CELL 'sum', in the pinned program and in every row, IS THE sha256 OF THE DUMP (.gsa) THAT YtfihmcpigbpgpaaProg.lean LOADS. Nothing in Lean hashes anything: it is a label: what it is worth is what the hold of that sum in a sandbox is worth. -/
noncomputable def Try.pinned : Pinned := { name := "ytfihmcpigbpgpaa", sum := "cc87e12fc28c2d13a3903252b4c58e6ce2da935da04acc0ad0bb5fd306caabb3", checked := Try.checked }
namespace Rows
def none {H : Type} : Left H := { results := [], args := [] }

/-- 'laws.FnTimesIn': WHATEVER THE INPUT: true; the input reads as it did. -/
def fnTimesInSpec : ChangeSpec := { name := "fnTimesIn", fn := fun _ => fun
  | [d] => { results := [.lit (.bool true)], args := [d] }
  | _ => none }
def fnTimesInRow : OpenClaim := { program := "ytfihmcpigbpgpaa", sum := "cc87e12fc28c2d13a3903252b4c58e6ce2da935da04acc0ad0bb5fd306caabb3", func := "loop.example/lucaspairs/laws.FnTimesIn", spec := "fnTimesIn", apart := false }
def FnTimesInSaid : Prop := fnTimesInRow.holds Try.pinned (OpenSpec.ofChange fnTimesInSpec)

/-- ITS FALSE NEIGHBOUR: 'it returns false'. Refute it at one input. -/
def fnTimesInWrong : ChangeSpec := { name := "fnTimesIn", fn := fun _ => fun
  | [d] => { results := [.lit (.bool false)], args := [d] }
  | _ => none }
def FnTimesInWrongFalsely : Prop := fnTimesInRow.holds Try.pinned (OpenSpec.ofChange fnTimesInWrong)

/-- 'laws.FnFibRank': WHATEVER THE INPUT: true; the input reads as it did. -/
def fnFibRankSpec : ChangeSpec := { name := "fnFibRank", fn := fun _ => fun
  | [d] => { results := [.lit (.bool true)], args := [d] }
  | _ => none }
def fnFibRankRow : OpenClaim := { program := "ytfihmcpigbpgpaa", sum := "cc87e12fc28c2d13a3903252b4c58e6ce2da935da04acc0ad0bb5fd306caabb3", func := "loop.example/lucaspairs/laws.FnFibRank", spec := "fnFibRank", unfollowed := true, recurses := true, apart := false }
def FnFibRankSaid : Prop := fnFibRankRow.holds Try.pinned (OpenSpec.ofChange fnFibRankSpec)

/-- ITS FALSE NEIGHBOUR: 'it returns false'. Refute it at one input. -/
def fnFibRankWrong : ChangeSpec := { name := "fnFibRank", fn := fun _ => fun
  | [d] => { results := [.lit (.bool false)], args := [d] }
  | _ => none }
def FnFibRankWrongFalsely : Prop := fnFibRankRow.holds Try.pinned (OpenSpec.ofChange fnFibRankWrong)

/-- 'laws.FnTimesAt': WHATEVER THE INPUT: true; the input reads as it did. -/
def fnTimesAtSpec : ChangeSpec := { name := "fnTimesAt", fn := fun _ => fun
  | [d] => { results := [.lit (.bool true)], args := [d] }
  | _ => none }
def fnTimesAtRow : OpenClaim := { program := "ytfihmcpigbpgpaa", sum := "cc87e12fc28c2d13a3903252b4c58e6ce2da935da04acc0ad0bb5fd306caabb3", func := "loop.example/lucaspairs/laws.FnTimesAt", spec := "fnTimesAt", unfollowed := true, recurses := true, apart := false }
def FnTimesAtSaid : Prop := fnTimesAtRow.holds Try.pinned (OpenSpec.ofChange fnTimesAtSpec)

/-- ITS FALSE NEIGHBOUR: 'it returns false'. Refute it at one input. -/
def fnTimesAtWrong : ChangeSpec := { name := "fnTimesAt", fn := fun _ => fun
  | [d] => { results := [.lit (.bool false)], args := [d] }
  | _ => none }
def FnTimesAtWrongFalsely : Prop := fnTimesAtRow.holds Try.pinned (OpenSpec.ofChange fnTimesAtWrong)

/-- 'laws.FnPowerRank': WHATEVER THE INPUT: true; the input reads as it did. -/
def fnPowerRankSpec : ChangeSpec := { name := "fnPowerRank", fn := fun _ => fun
  | [d] => { results := [.lit (.bool true)], args := [d] }
  | _ => none }
def fnPowerRankRow : OpenClaim := { program := "ytfihmcpigbpgpaa", sum := "cc87e12fc28c2d13a3903252b4c58e6ce2da935da04acc0ad0bb5fd306caabb3", func := "loop.example/lucaspairs/laws.FnPowerRank", spec := "fnPowerRank", unfollowed := true, recurses := true, apart := false }
def FnPowerRankSaid : Prop := fnPowerRankRow.holds Try.pinned (OpenSpec.ofChange fnPowerRankSpec)

/-- ITS FALSE NEIGHBOUR: 'it returns false'. Refute it at one input. -/
def fnPowerRankWrong : ChangeSpec := { name := "fnPowerRank", fn := fun _ => fun
  | [d] => { results := [.lit (.bool false)], args := [d] }
  | _ => none }
def FnPowerRankWrongFalsely : Prop := fnPowerRankRow.holds Try.pinned (OpenSpec.ofChange fnPowerRankWrong)

/-- 'laws.FnExactTimesIn': WHATEVER THE INPUT: true; the input reads as it did. -/
def fnExactTimesInSpec : ChangeSpec := { name := "fnExactTimesIn", fn := fun _ => fun
  | [d1, d2] => { results := [.lit (.bool true)], args := [d1, d2] }
  | _ => none }
def fnExactTimesInRow : OpenClaim := { program := "ytfihmcpigbpgpaa", sum := "cc87e12fc28c2d13a3903252b4c58e6ce2da935da04acc0ad0bb5fd306caabb3", func := "loop.example/lucaspairs/laws.FnExactTimesIn", spec := "fnExactTimesIn", apart := false }
def FnExactTimesInSaid : Prop := fnExactTimesInRow.holds Try.pinned (OpenSpec.ofChange fnExactTimesInSpec)

/-- ITS FALSE NEIGHBOUR: 'it returns false'. Refute it at one input. -/
def fnExactTimesInWrong : ChangeSpec := { name := "fnExactTimesIn", fn := fun _ => fun
  | [d1, d2] => { results := [.lit (.bool false)], args := [d1, d2] }
  | _ => none }
def FnExactTimesInWrongFalsely : Prop := fnExactTimesInRow.holds Try.pinned (OpenSpec.ofChange fnExactTimesInWrong)

/-- 'laws.FnExactFibRank': WHATEVER THE INPUT: true; the input reads as it did. -/
def fnExactFibRankSpec : ChangeSpec := { name := "fnExactFibRank", fn := fun _ => fun
  | [d] => { results := [.lit (.bool true)], args := [d] }
  | _ => none }
def fnExactFibRankRow : OpenClaim := { program := "ytfihmcpigbpgpaa", sum := "cc87e12fc28c2d13a3903252b4c58e6ce2da935da04acc0ad0bb5fd306caabb3", func := "loop.example/lucaspairs/laws.FnExactFibRank", spec := "fnExactFibRank", unfollowed := true, recurses := true, apart := false }
def FnExactFibRankSaid : Prop := fnExactFibRankRow.holds Try.pinned (OpenSpec.ofChange fnExactFibRankSpec)

/-- ITS FALSE NEIGHBOUR: 'it returns false'. Refute it at one input. -/
def fnExactFibRankWrong : ChangeSpec := { name := "fnExactFibRank", fn := fun _ => fun
  | [d] => { results := [.lit (.bool false)], args := [d] }
  | _ => none }
def FnExactFibRankWrongFalsely : Prop := fnExactFibRankRow.holds Try.pinned (OpenSpec.ofChange fnExactFibRankWrong)

/-- 'laws.FnExactTimesAt': WHATEVER THE INPUT: true; the input reads as it did. -/
def fnExactTimesAtSpec : ChangeSpec := { name := "fnExactTimesAt", fn := fun _ => fun
  | [d1, d2] => { results := [.lit (.bool true)], args := [d1, d2] }
  | _ => none }
def fnExactTimesAtRow : OpenClaim := { program := "ytfihmcpigbpgpaa", sum := "cc87e12fc28c2d13a3903252b4c58e6ce2da935da04acc0ad0bb5fd306caabb3", func := "loop.example/lucaspairs/laws.FnExactTimesAt", spec := "fnExactTimesAt", unfollowed := true, recurses := true, apart := false }
def FnExactTimesAtSaid : Prop := fnExactTimesAtRow.holds Try.pinned (OpenSpec.ofChange fnExactTimesAtSpec)

/-- ITS FALSE NEIGHBOUR: 'it returns false'. Refute it at one input. -/
def fnExactTimesAtWrong : ChangeSpec := { name := "fnExactTimesAt", fn := fun _ => fun
  | [d1, d2] => { results := [.lit (.bool false)], args := [d1, d2] }
  | _ => none }
def FnExactTimesAtWrongFalsely : Prop := fnExactTimesAtRow.holds Try.pinned (OpenSpec.ofChange fnExactTimesAtWrong)

/-- 'laws.FnExactPowerRank': WHATEVER THE INPUT: true; the input reads as it did. -/
def fnExactPowerRankSpec : ChangeSpec := { name := "fnExactPowerRank", fn := fun _ => fun
  | [d1, d2] => { results := [.lit (.bool true)], args := [d1, d2] }
  | _ => none }
def fnExactPowerRankRow : OpenClaim := { program := "ytfihmcpigbpgpaa", sum := "cc87e12fc28c2d13a3903252b4c58e6ce2da935da04acc0ad0bb5fd306caabb3", func := "loop.example/lucaspairs/laws.FnExactPowerRank", spec := "fnExactPowerRank", unfollowed := true, recurses := true, apart := false }
def FnExactPowerRankSaid : Prop := fnExactPowerRankRow.holds Try.pinned (OpenSpec.ofChange fnExactPowerRankSpec)

/-- ITS FALSE NEIGHBOUR: 'it returns false'. Refute it at one input. -/
def fnExactPowerRankWrong : ChangeSpec := { name := "fnExactPowerRank", fn := fun _ => fun
  | [d1, d2] => { results := [.lit (.bool false)], args := [d1, d2] }
  | _ => none }
def FnExactPowerRankWrongFalsely : Prop := fnExactPowerRankRow.holds Try.pinned (OpenSpec.ofChange fnExactPowerRankWrong)

/- THE SECOND FORM. 'bulk': how many values and letters a reading holds, each counted each time it is reached (what is shared counts as often as it is met; a slice's spare places count too). A statement '..UptoSaid' is the law's where the arguments, and the package variables that the reading takes, are together of bulk at most 1048576: NARROWER than '..Said'. Prove '..Said' where nothing that the law and all that it calls make is longer than what came in: it says more and counts as full. Else prove '..UptoSaid'. A law counts once. -/
mutual
def uptoBulk {H : Type} : DataW H → Nat
  | .lit (.string bytes) => bytes.length + 1
  | .lit _ => 1
  | .nil => 1
  | .ptr d => uptoBulk d + 1
  | .slice elems spare => uptoBulkAll elems + uptoBulkAll spare + 1
  | .agg parts => uptoBulkAll parts + 1
  | .iface _ d => uptoBulk d + 1
  | .map entries => uptoBulkEntries entries + 1
  | .held _ => 1
def uptoBulkAll {H : Type} : List (DataW H) → Nat
  | [] => 0
  | d :: r => uptoBulk d + uptoBulkAll r
def uptoBulkEntries {H : Type} : List (Lit × DataW H) → Nat
  | [] => 0
  | x :: r => uptoBulkEntry x + uptoBulkEntries r
def uptoBulkEntry {H : Type} : Lit × DataW H → Nat
  | (.string bytes, d) => bytes.length + uptoBulk d + 1
  | (_, d) => uptoBulk d + 1
 end
def uptoSmall : (H : Type) → List (DataW H) → Bool := fun _ ds => decide (uptoBulkAll ds ≤ 1048576)
def OpenSpec.upto (s : _root_.Go.ChangeSpec) : _root_.Go.OpenSpec := { _root_.Go.OpenSpec.ofChange s with cond := some uptoSmall }

/-- 'laws.FnTimesIn', WHERE WHAT IT READS IS OF BULK AT MOST 1048576: true; the input reads as it did. -/
def fnTimesInUptoRow : OpenClaim := { program := "ytfihmcpigbpgpaa", sum := "cc87e12fc28c2d13a3903252b4c58e6ce2da935da04acc0ad0bb5fd306caabb3", func := "loop.example/lucaspairs/laws.FnTimesIn", spec := "fnTimesIn", apart := false, narrowed := true }
def FnTimesInUptoSaid : Prop := fnTimesInUptoRow.holds Try.pinned (OpenSpec.upto fnTimesInSpec)

/-- 'laws.FnFibRank', WHERE WHAT IT READS IS OF BULK AT MOST 1048576: true; the input reads as it did. -/
def fnFibRankUptoRow : OpenClaim := { program := "ytfihmcpigbpgpaa", sum := "cc87e12fc28c2d13a3903252b4c58e6ce2da935da04acc0ad0bb5fd306caabb3", func := "loop.example/lucaspairs/laws.FnFibRank", spec := "fnFibRank", unfollowed := true, recurses := true, apart := false, narrowed := true }
def FnFibRankUptoSaid : Prop := fnFibRankUptoRow.holds Try.pinned (OpenSpec.upto fnFibRankSpec)

/-- 'laws.FnTimesAt', WHERE WHAT IT READS IS OF BULK AT MOST 1048576: true; the input reads as it did. -/
def fnTimesAtUptoRow : OpenClaim := { program := "ytfihmcpigbpgpaa", sum := "cc87e12fc28c2d13a3903252b4c58e6ce2da935da04acc0ad0bb5fd306caabb3", func := "loop.example/lucaspairs/laws.FnTimesAt", spec := "fnTimesAt", unfollowed := true, recurses := true, apart := false, narrowed := true }
def FnTimesAtUptoSaid : Prop := fnTimesAtUptoRow.holds Try.pinned (OpenSpec.upto fnTimesAtSpec)

/-- 'laws.FnPowerRank', WHERE WHAT IT READS IS OF BULK AT MOST 1048576: true; the input reads as it did. -/
def fnPowerRankUptoRow : OpenClaim := { program := "ytfihmcpigbpgpaa", sum := "cc87e12fc28c2d13a3903252b4c58e6ce2da935da04acc0ad0bb5fd306caabb3", func := "loop.example/lucaspairs/laws.FnPowerRank", spec := "fnPowerRank", unfollowed := true, recurses := true, apart := false, narrowed := true }
def FnPowerRankUptoSaid : Prop := fnPowerRankUptoRow.holds Try.pinned (OpenSpec.upto fnPowerRankSpec)

/-- 'laws.FnExactTimesIn', WHERE WHAT IT READS IS OF BULK AT MOST 1048576: true; the input reads as it did. -/
def fnExactTimesInUptoRow : OpenClaim := { program := "ytfihmcpigbpgpaa", sum := "cc87e12fc28c2d13a3903252b4c58e6ce2da935da04acc0ad0bb5fd306caabb3", func := "loop.example/lucaspairs/laws.FnExactTimesIn", spec := "fnExactTimesIn", apart := false, narrowed := true }
def FnExactTimesInUptoSaid : Prop := fnExactTimesInUptoRow.holds Try.pinned (OpenSpec.upto fnExactTimesInSpec)

/-- 'laws.FnExactFibRank', WHERE WHAT IT READS IS OF BULK AT MOST 1048576: true; the input reads as it did. -/
def fnExactFibRankUptoRow : OpenClaim := { program := "ytfihmcpigbpgpaa", sum := "cc87e12fc28c2d13a3903252b4c58e6ce2da935da04acc0ad0bb5fd306caabb3", func := "loop.example/lucaspairs/laws.FnExactFibRank", spec := "fnExactFibRank", unfollowed := true, recurses := true, apart := false, narrowed := true }
def FnExactFibRankUptoSaid : Prop := fnExactFibRankUptoRow.holds Try.pinned (OpenSpec.upto fnExactFibRankSpec)

/-- 'laws.FnExactTimesAt', WHERE WHAT IT READS IS OF BULK AT MOST 1048576: true; the input reads as it did. -/
def fnExactTimesAtUptoRow : OpenClaim := { program := "ytfihmcpigbpgpaa", sum := "cc87e12fc28c2d13a3903252b4c58e6ce2da935da04acc0ad0bb5fd306caabb3", func := "loop.example/lucaspairs/laws.FnExactTimesAt", spec := "fnExactTimesAt", unfollowed := true, recurses := true, apart := false, narrowed := true }
def FnExactTimesAtUptoSaid : Prop := fnExactTimesAtUptoRow.holds Try.pinned (OpenSpec.upto fnExactTimesAtSpec)

/-- 'laws.FnExactPowerRank', WHERE WHAT IT READS IS OF BULK AT MOST 1048576: true; the input reads as it did. -/
def fnExactPowerRankUptoRow : OpenClaim := { program := "ytfihmcpigbpgpaa", sum := "cc87e12fc28c2d13a3903252b4c58e6ce2da935da04acc0ad0bb5fd306caabb3", func := "loop.example/lucaspairs/laws.FnExactPowerRank", spec := "fnExactPowerRank", unfollowed := true, recurses := true, apart := false, narrowed := true }
def FnExactPowerRankUptoSaid : Prop := fnExactPowerRankUptoRow.holds Try.pinned (OpenSpec.upto fnExactPowerRankSpec)

end Rows
end Go.Proofs.Ytfihmcpigbpgpaa
