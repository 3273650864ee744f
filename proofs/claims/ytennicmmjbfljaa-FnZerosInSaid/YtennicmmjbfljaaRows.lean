/-
  No cell of these rows narrows 'for every input' (looked for: loops, veiled, ifaces, maps, wideKeys, modest, calm, conditions, laid).
  DERIVED. THE GIVEN ROWS OF THIS SEAT. 10 by the template 'for every input the law returns true; each argument reads behind the call as it read before'; 0 by the template 'total and deterministic' (their statements: YtennicmmjbfljaaTotals.lean).
  GIVEN WITH THE SEED: the statements are not yours to turn. If you find one false, say at which input.
  Laid BY PROGRAM, IN A SANDBOX (cutbox-rows.mjs): the forced cells as the released guide's own fill.sh prints them over the translation 3ab1802f0e2d20a1… (all of the seat's roots in one cut). By AI agents, Wed Nov 11 2026. No macro, syntax, notation, axiom, sorry.
-/
import Derived.Test.YtennicmmjbfljaaChecked
import GoSem.Claim
import GoSem.ClaimJoined
import GoSem.ClaimMapViews
import Derived.JoinedTies
import Derived.KernelRfl
namespace Go.Proofs.Ytennicmmjbfljaa
/- THE CELL 'sum', in the pinned program and in every row, IS THE sha256 OF THE DUMP (.gsa) THAT YtennicmmjbfljaaProg.lean LOADS. Nothing in Lean hashes anything: it is a label: what it is worth is what the hold of that sum in a sandbox is worth. -/
noncomputable def Try.pinned : Pinned := { name := "ytennicmmjbfljaa", sum := "3ab1802f0e2d20a14f0885eb183a7ad457ce35aae2f0609995343232161db645", checked := Try.checked }
namespace Rows
def none {H : Type} : Left H := { results := [], args := [] }

/-- 'laws.FnApartPair': WHATEVER THE INPUT: true; the input reads as it did. -/
def fnApartPairSpec : ChangeSpec := { name := "fnApartPair", fn := fun _ => fun
  | [d] => { results := [.lit (.bool true)], args := [d] }
  | _ => none }
def fnApartPairRow : OpenClaim := { program := "ytennicmmjbfljaa", sum := "3ab1802f0e2d20a14f0885eb183a7ad457ce35aae2f0609995343232161db645", func := "loop.example/lucaspairs/laws.FnApartPair", spec := "fnApartPair", apart := false }
def FnApartPairSaid : Prop := fnApartPairRow.holds Try.pinned (OpenSpec.ofChange fnApartPairSpec)

/-- ITS FALSE NEIGHBOUR: 'it returns false'. Refute it at one input. -/
def fnApartPairWrong : ChangeSpec := { name := "fnApartPair", fn := fun _ => fun
  | [d] => { results := [.lit (.bool false)], args := [d] }
  | _ => none }
def FnApartPairWrongFalsely : Prop := fnApartPairRow.holds Try.pinned (OpenSpec.ofChange fnApartPairWrong)

/-- 'laws.FnSharedAt': WHATEVER THE INPUT: true; the input reads as it did. -/
def fnSharedAtSpec : ChangeSpec := { name := "fnSharedAt", fn := fun _ => fun
  | [d] => { results := [.lit (.bool true)], args := [d] }
  | _ => none }
def fnSharedAtRow : OpenClaim := { program := "ytennicmmjbfljaa", sum := "3ab1802f0e2d20a14f0885eb183a7ad457ce35aae2f0609995343232161db645", func := "loop.example/lucaspairs/laws.FnSharedAt", spec := "fnSharedAt", unfollowed := true, recurses := true, apart := false }
def FnSharedAtSaid : Prop := fnSharedAtRow.holds Try.pinned (OpenSpec.ofChange fnSharedAtSpec)

/-- ITS FALSE NEIGHBOUR: 'it returns false'. Refute it at one input. -/
def fnSharedAtWrong : ChangeSpec := { name := "fnSharedAt", fn := fun _ => fun
  | [d] => { results := [.lit (.bool false)], args := [d] }
  | _ => none }
def FnSharedAtWrongFalsely : Prop := fnSharedAtRow.holds Try.pinned (OpenSpec.ofChange fnSharedAtWrong)

/-- 'laws.FnQuotientAt': WHATEVER THE INPUT: true; the input reads as it did. -/
def fnQuotientAtSpec : ChangeSpec := { name := "fnQuotientAt", fn := fun _ => fun
  | [d] => { results := [.lit (.bool true)], args := [d] }
  | _ => none }
def fnQuotientAtRow : OpenClaim := { program := "ytennicmmjbfljaa", sum := "3ab1802f0e2d20a14f0885eb183a7ad457ce35aae2f0609995343232161db645", func := "loop.example/lucaspairs/laws.FnQuotientAt", spec := "fnQuotientAt", unfollowed := true, recurses := true, apart := false }
def FnQuotientAtSaid : Prop := fnQuotientAtRow.holds Try.pinned (OpenSpec.ofChange fnQuotientAtSpec)

/-- ITS FALSE NEIGHBOUR: 'it returns false'. Refute it at one input. -/
def fnQuotientAtWrong : ChangeSpec := { name := "fnQuotientAt", fn := fun _ => fun
  | [d] => { results := [.lit (.bool false)], args := [d] }
  | _ => none }
def FnQuotientAtWrongFalsely : Prop := fnQuotientAtRow.holds Try.pinned (OpenSpec.ofChange fnQuotientAtWrong)

/-- 'laws.FnZerosIn': WHATEVER THE INPUT: true; the input reads as it did. -/
def fnZerosInSpec : ChangeSpec := { name := "fnZerosIn", fn := fun _ => fun
  | [d] => { results := [.lit (.bool true)], args := [d] }
  | _ => none }
def fnZerosInRow : OpenClaim := { program := "ytennicmmjbfljaa", sum := "3ab1802f0e2d20a14f0885eb183a7ad457ce35aae2f0609995343232161db645", func := "loop.example/lucaspairs/laws.FnZerosIn", spec := "fnZerosIn", unfollowed := true, recurses := true, apart := false }
def FnZerosInSaid : Prop := fnZerosInRow.holds Try.pinned (OpenSpec.ofChange fnZerosInSpec)

/-- ITS FALSE NEIGHBOUR: 'it returns false'. Refute it at one input. -/
def fnZerosInWrong : ChangeSpec := { name := "fnZerosIn", fn := fun _ => fun
  | [d] => { results := [.lit (.bool false)], args := [d] }
  | _ => none }
def FnZerosInWrongFalsely : Prop := fnZerosInRow.holds Try.pinned (OpenSpec.ofChange fnZerosInWrong)

/-- 'laws.FnDividedAt': WHATEVER THE INPUT: true; the input reads as it did. -/
def fnDividedAtSpec : ChangeSpec := { name := "fnDividedAt", fn := fun _ => fun
  | [d] => { results := [.lit (.bool true)], args := [d] }
  | _ => none }
def fnDividedAtRow : OpenClaim := { program := "ytennicmmjbfljaa", sum := "3ab1802f0e2d20a14f0885eb183a7ad457ce35aae2f0609995343232161db645", func := "loop.example/lucaspairs/laws.FnDividedAt", spec := "fnDividedAt", unfollowed := true, recurses := true, apart := false }
def FnDividedAtSaid : Prop := fnDividedAtRow.holds Try.pinned (OpenSpec.ofChange fnDividedAtSpec)

/-- ITS FALSE NEIGHBOUR: 'it returns false'. Refute it at one input. -/
def fnDividedAtWrong : ChangeSpec := { name := "fnDividedAt", fn := fun _ => fun
  | [d] => { results := [.lit (.bool false)], args := [d] }
  | _ => none }
def FnDividedAtWrongFalsely : Prop := fnDividedAtRow.holds Try.pinned (OpenSpec.ofChange fnDividedAtWrong)

/-- 'laws.FnExactApartPair': WHATEVER THE INPUT: true; the input reads as it did. -/
def fnExactApartPairSpec : ChangeSpec := { name := "fnExactApartPair", fn := fun _ => fun
  | [d] => { results := [.lit (.bool true)], args := [d] }
  | _ => none }
def fnExactApartPairRow : OpenClaim := { program := "ytennicmmjbfljaa", sum := "3ab1802f0e2d20a14f0885eb183a7ad457ce35aae2f0609995343232161db645", func := "loop.example/lucaspairs/laws.FnExactApartPair", spec := "fnExactApartPair", apart := false }
def FnExactApartPairSaid : Prop := fnExactApartPairRow.holds Try.pinned (OpenSpec.ofChange fnExactApartPairSpec)

/-- ITS FALSE NEIGHBOUR: 'it returns false'. Refute it at one input. -/
def fnExactApartPairWrong : ChangeSpec := { name := "fnExactApartPair", fn := fun _ => fun
  | [d] => { results := [.lit (.bool false)], args := [d] }
  | _ => none }
def FnExactApartPairWrongFalsely : Prop := fnExactApartPairRow.holds Try.pinned (OpenSpec.ofChange fnExactApartPairWrong)

/-- 'laws.FnExactSharedAt': WHATEVER THE INPUT: true; the input reads as it did. -/
def fnExactSharedAtSpec : ChangeSpec := { name := "fnExactSharedAt", fn := fun _ => fun
  | [d1, d2, d3] => { results := [.lit (.bool true)], args := [d1, d2, d3] }
  | _ => none }
def fnExactSharedAtRow : OpenClaim := { program := "ytennicmmjbfljaa", sum := "3ab1802f0e2d20a14f0885eb183a7ad457ce35aae2f0609995343232161db645", func := "loop.example/lucaspairs/laws.FnExactSharedAt", spec := "fnExactSharedAt", unfollowed := true, recurses := true, apart := false }
def FnExactSharedAtSaid : Prop := fnExactSharedAtRow.holds Try.pinned (OpenSpec.ofChange fnExactSharedAtSpec)

/-- ITS FALSE NEIGHBOUR: 'it returns false'. Refute it at one input. -/
def fnExactSharedAtWrong : ChangeSpec := { name := "fnExactSharedAt", fn := fun _ => fun
  | [d1, d2, d3] => { results := [.lit (.bool false)], args := [d1, d2, d3] }
  | _ => none }
def FnExactSharedAtWrongFalsely : Prop := fnExactSharedAtRow.holds Try.pinned (OpenSpec.ofChange fnExactSharedAtWrong)

/-- 'laws.FnExactQuotientAt': WHATEVER THE INPUT: true; the input reads as it did. -/
def fnExactQuotientAtSpec : ChangeSpec := { name := "fnExactQuotientAt", fn := fun _ => fun
  | [d1, d2, d3] => { results := [.lit (.bool true)], args := [d1, d2, d3] }
  | _ => none }
def fnExactQuotientAtRow : OpenClaim := { program := "ytennicmmjbfljaa", sum := "3ab1802f0e2d20a14f0885eb183a7ad457ce35aae2f0609995343232161db645", func := "loop.example/lucaspairs/laws.FnExactQuotientAt", spec := "fnExactQuotientAt", unfollowed := true, recurses := true, apart := false }
def FnExactQuotientAtSaid : Prop := fnExactQuotientAtRow.holds Try.pinned (OpenSpec.ofChange fnExactQuotientAtSpec)

/-- ITS FALSE NEIGHBOUR: 'it returns false'. Refute it at one input. -/
def fnExactQuotientAtWrong : ChangeSpec := { name := "fnExactQuotientAt", fn := fun _ => fun
  | [d1, d2, d3] => { results := [.lit (.bool false)], args := [d1, d2, d3] }
  | _ => none }
def FnExactQuotientAtWrongFalsely : Prop := fnExactQuotientAtRow.holds Try.pinned (OpenSpec.ofChange fnExactQuotientAtWrong)

/-- 'laws.FnExactZerosIn': WHATEVER THE INPUT: true; the input reads as it did. -/
def fnExactZerosInSpec : ChangeSpec := { name := "fnExactZerosIn", fn := fun _ => fun
  | [d] => { results := [.lit (.bool true)], args := [d] }
  | _ => none }
def fnExactZerosInRow : OpenClaim := { program := "ytennicmmjbfljaa", sum := "3ab1802f0e2d20a14f0885eb183a7ad457ce35aae2f0609995343232161db645", func := "loop.example/lucaspairs/laws.FnExactZerosIn", spec := "fnExactZerosIn", unfollowed := true, recurses := true, apart := false }
def FnExactZerosInSaid : Prop := fnExactZerosInRow.holds Try.pinned (OpenSpec.ofChange fnExactZerosInSpec)

/-- ITS FALSE NEIGHBOUR: 'it returns false'. Refute it at one input. -/
def fnExactZerosInWrong : ChangeSpec := { name := "fnExactZerosIn", fn := fun _ => fun
  | [d] => { results := [.lit (.bool false)], args := [d] }
  | _ => none }
def FnExactZerosInWrongFalsely : Prop := fnExactZerosInRow.holds Try.pinned (OpenSpec.ofChange fnExactZerosInWrong)

/-- 'laws.FnExactDividedAt': WHATEVER THE INPUT: true; the input reads as it did. -/
def fnExactDividedAtSpec : ChangeSpec := { name := "fnExactDividedAt", fn := fun _ => fun
  | [d1, d2] => { results := [.lit (.bool true)], args := [d1, d2] }
  | _ => none }
def fnExactDividedAtRow : OpenClaim := { program := "ytennicmmjbfljaa", sum := "3ab1802f0e2d20a14f0885eb183a7ad457ce35aae2f0609995343232161db645", func := "loop.example/lucaspairs/laws.FnExactDividedAt", spec := "fnExactDividedAt", unfollowed := true, recurses := true, apart := false }
def FnExactDividedAtSaid : Prop := fnExactDividedAtRow.holds Try.pinned (OpenSpec.ofChange fnExactDividedAtSpec)

/-- ITS FALSE NEIGHBOUR: 'it returns false'. Refute it at one input. -/
def fnExactDividedAtWrong : ChangeSpec := { name := "fnExactDividedAt", fn := fun _ => fun
  | [d1, d2] => { results := [.lit (.bool false)], args := [d1, d2] }
  | _ => none }
def FnExactDividedAtWrongFalsely : Prop := fnExactDividedAtRow.holds Try.pinned (OpenSpec.ofChange fnExactDividedAtWrong)

/- THE SECOND FORM. 'bulk': how many values and letters a reading holds, each counted each time it is reached (what is shared counts as often as it is met; a slice's spare places count too). A statement '..UptoSaid' is the law's where the arguments, and the package variables that the reading takes, are together of bulk at most 1048576: NARROWER than '..Said'. Prove '..Said' where nothing that the law and all that it calls make is longer than what came in: it says more and counts as full. Else prove '..UptoSaid'. A law counts once. -/
mutual
def uptoBulk {H : Type} : DataW H → Nat
  | .lit (.string bytes) => bytes.length + 1
  | .lit _ => 1
  | .nil => 1
  | .ptr d => uptoBulk d + 1
  | .slice elems spare => uptoBulkAll elems + uptoBulkAll spare + 1
  | .agg parts => uptoBulkAll parts + 1
  | .iface _ d => uptoBulk d + 1
  | .map entries => uptoBulkEntries entries + 1
  | .held _ => 1
def uptoBulkAll {H : Type} : List (DataW H) → Nat
  | [] => 0
  | d :: r => uptoBulk d + uptoBulkAll r
def uptoBulkEntries {H : Type} : List (Lit × DataW H) → Nat
  | [] => 0
  | x :: r => uptoBulkEntry x + uptoBulkEntries r
def uptoBulkEntry {H : Type} : Lit × DataW H → Nat
  | (.string bytes, d) => bytes.length + uptoBulk d + 1
  | (_, d) => uptoBulk d + 1
 end
def uptoSmall : (H : Type) → List (DataW H) → Bool := fun _ ds => decide (uptoBulkAll ds ≤ 1048576)
def OpenSpec.upto (s : _root_.Go.ChangeSpec) : _root_.Go.OpenSpec := { _root_.Go.OpenSpec.ofChange s with cond := some uptoSmall }

/-- 'laws.FnApartPair', WHERE WHAT IT READS IS OF BULK AT MOST 1048576: true; the input reads as it did. -/
def fnApartPairUptoRow : OpenClaim := { program := "ytennicmmjbfljaa", sum := "3ab1802f0e2d20a14f0885eb183a7ad457ce35aae2f0609995343232161db645", func := "loop.example/lucaspairs/laws.FnApartPair", spec := "fnApartPair", apart := false, narrowed := true }
def FnApartPairUptoSaid : Prop := fnApartPairUptoRow.holds Try.pinned (OpenSpec.upto fnApartPairSpec)

/-- 'laws.FnSharedAt', WHERE WHAT IT READS IS OF BULK AT MOST 1048576: true; the input reads as it did. -/
def fnSharedAtUptoRow : OpenClaim := { program := "ytennicmmjbfljaa", sum := "3ab1802f0e2d20a14f0885eb183a7ad457ce35aae2f0609995343232161db645", func := "loop.example/lucaspairs/laws.FnSharedAt", spec := "fnSharedAt", unfollowed := true, recurses := true, apart := false, narrowed := true }
def FnSharedAtUptoSaid : Prop := fnSharedAtUptoRow.holds Try.pinned (OpenSpec.upto fnSharedAtSpec)

/-- 'laws.FnQuotientAt', WHERE WHAT IT READS IS OF BULK AT MOST 1048576: true; the input reads as it did. -/
def fnQuotientAtUptoRow : OpenClaim := { program := "ytennicmmjbfljaa", sum := "3ab1802f0e2d20a14f0885eb183a7ad457ce35aae2f0609995343232161db645", func := "loop.example/lucaspairs/laws.FnQuotientAt", spec := "fnQuotientAt", unfollowed := true, recurses := true, apart := false, narrowed := true }
def FnQuotientAtUptoSaid : Prop := fnQuotientAtUptoRow.holds Try.pinned (OpenSpec.upto fnQuotientAtSpec)

/-- 'laws.FnZerosIn', WHERE WHAT IT READS IS OF BULK AT MOST 1048576: true; the input reads as it did. -/
def fnZerosInUptoRow : OpenClaim := { program := "ytennicmmjbfljaa", sum := "3ab1802f0e2d20a14f0885eb183a7ad457ce35aae2f0609995343232161db645", func := "loop.example/lucaspairs/laws.FnZerosIn", spec := "fnZerosIn", unfollowed := true, recurses := true, apart := false, narrowed := true }
def FnZerosInUptoSaid : Prop := fnZerosInUptoRow.holds Try.pinned (OpenSpec.upto fnZerosInSpec)

/-- 'laws.FnDividedAt', WHERE WHAT IT READS IS OF BULK AT MOST 1048576: true; the input reads as it did. -/
def fnDividedAtUptoRow : OpenClaim := { program := "ytennicmmjbfljaa", sum := "3ab1802f0e2d20a14f0885eb183a7ad457ce35aae2f0609995343232161db645", func := "loop.example/lucaspairs/laws.FnDividedAt", spec := "fnDividedAt", unfollowed := true, recurses := true, apart := false, narrowed := true }
def FnDividedAtUptoSaid : Prop := fnDividedAtUptoRow.holds Try.pinned (OpenSpec.upto fnDividedAtSpec)

/-- 'laws.FnExactApartPair', WHERE WHAT IT READS IS OF BULK AT MOST 1048576: true; the input reads as it did. -/
def fnExactApartPairUptoRow : OpenClaim := { program := "ytennicmmjbfljaa", sum := "3ab1802f0e2d20a14f0885eb183a7ad457ce35aae2f0609995343232161db645", func := "loop.example/lucaspairs/laws.FnExactApartPair", spec := "fnExactApartPair", apart := false, narrowed := true }
def FnExactApartPairUptoSaid : Prop := fnExactApartPairUptoRow.holds Try.pinned (OpenSpec.upto fnExactApartPairSpec)

/-- 'laws.FnExactSharedAt', WHERE WHAT IT READS IS OF BULK AT MOST 1048576: true; the input reads as it did. -/
def fnExactSharedAtUptoRow : OpenClaim := { program := "ytennicmmjbfljaa", sum := "3ab1802f0e2d20a14f0885eb183a7ad457ce35aae2f0609995343232161db645", func := "loop.example/lucaspairs/laws.FnExactSharedAt", spec := "fnExactSharedAt", unfollowed := true, recurses := true, apart := false, narrowed := true }
def FnExactSharedAtUptoSaid : Prop := fnExactSharedAtUptoRow.holds Try.pinned (OpenSpec.upto fnExactSharedAtSpec)

/-- 'laws.FnExactQuotientAt', WHERE WHAT IT READS IS OF BULK AT MOST 1048576: true; the input reads as it did. -/
def fnExactQuotientAtUptoRow : OpenClaim := { program := "ytennicmmjbfljaa", sum := "3ab1802f0e2d20a14f0885eb183a7ad457ce35aae2f0609995343232161db645", func := "loop.example/lucaspairs/laws.FnExactQuotientAt", spec := "fnExactQuotientAt", unfollowed := true, recurses := true, apart := false, narrowed := true }
def FnExactQuotientAtUptoSaid : Prop := fnExactQuotientAtUptoRow.holds Try.pinned (OpenSpec.upto fnExactQuotientAtSpec)

/-- 'laws.FnExactZerosIn', WHERE WHAT IT READS IS OF BULK AT MOST 1048576: true; the input reads as it did. -/
def fnExactZerosInUptoRow : OpenClaim := { program := "ytennicmmjbfljaa", sum := "3ab1802f0e2d20a14f0885eb183a7ad457ce35aae2f0609995343232161db645", func := "loop.example/lucaspairs/laws.FnExactZerosIn", spec := "fnExactZerosIn", unfollowed := true, recurses := true, apart := false, narrowed := true }
def FnExactZerosInUptoSaid : Prop := fnExactZerosInUptoRow.holds Try.pinned (OpenSpec.upto fnExactZerosInSpec)

/-- 'laws.FnExactDividedAt', WHERE WHAT IT READS IS OF BULK AT MOST 1048576: true; the input reads as it did. -/
def fnExactDividedAtUptoRow : OpenClaim := { program := "ytennicmmjbfljaa", sum := "3ab1802f0e2d20a14f0885eb183a7ad457ce35aae2f0609995343232161db645", func := "loop.example/lucaspairs/laws.FnExactDividedAt", spec := "fnExactDividedAt", unfollowed := true, recurses := true, apart := false, narrowed := true }
def FnExactDividedAtUptoSaid : Prop := fnExactDividedAtUptoRow.holds Try.pinned (OpenSpec.upto fnExactDividedAtSpec)

end Rows
end Go.Proofs.Ytennicmmjbfljaa
