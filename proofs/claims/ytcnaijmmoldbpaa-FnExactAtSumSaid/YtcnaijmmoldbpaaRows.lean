/-
  No cell of these rows narrows 'for every input' (looked for: loops, veiled, ifaces, maps, wideKeys, modest, calm, conditions, laid).
  DERIVED. THE GIVEN ROWS OF THIS SEAT. 8 by the template 'for every input the law returns true; each argument reads behind the call as it read before'; 0 by the template 'total and deterministic' (their statements: YtcnaijmmoldbpaaTotals.lean).
  GIVEN WITH THE SEED: the statements are not yours to turn. If you find one false, say at which input.
  Laid BY PROGRAM, IN A SANDBOX (cutbox-rows.mjs): the forced cells as the released guide's own fill.sh prints them over the translation 221b7bfea4d63b26… (all of the seat's roots in one cut). By AI agents, Wed Nov 11 2026. No macro, syntax, notation, axiom, sorry.
-/
import Derived.Test.YtcnaijmmoldbpaaChecked
import GoSem.Claim
import GoSem.ClaimJoined
import GoSem.ClaimMapViews
import Derived.JoinedTies
import Derived.KernelRfl
namespace Go.Proofs.Ytcnaijmmoldbpaa
/- THE CELL 'sum', in the pinned program and in every row, IS THE sha256 OF THE DUMP (.gsa) THAT YtcnaijmmoldbpaaProg.lean LOADS. Nothing in Lean hashes anything: it is a label: what it is worth is what the hold of that sum in a sandbox is worth. -/
noncomputable def Try.pinned : Pinned := { name := "ytcnaijmmoldbpaa", sum := "221b7bfea4d63b266e8d61f133ba7aed3f0e7dd13747fd57acc68b17cf2bff89", checked := Try.checked }
namespace Rows
def none {H : Type} : Left H := { results := [], args := [] }

/-- 'laws.FnAtSum': WHATEVER THE INPUT: true; the input reads as it did. -/
def fnAtSumSpec : ChangeSpec := { name := "fnAtSum", fn := fun _ => fun
  | [d] => { results := [.lit (.bool true)], args := [d] }
  | _ => none }
def fnAtSumRow : OpenClaim := { program := "ytcnaijmmoldbpaa", sum := "221b7bfea4d63b266e8d61f133ba7aed3f0e7dd13747fd57acc68b17cf2bff89", func := "loop.example/lucaspairs/laws.FnAtSum", spec := "fnAtSum", unfollowed := true, recurses := true, apart := false }
def FnAtSumSaid : Prop := fnAtSumRow.holds Try.pinned (OpenSpec.ofChange fnAtSumSpec)

/-- ITS FALSE NEIGHBOUR: 'it returns false'. Refute it at one input. -/
def fnAtSumWrong : ChangeSpec := { name := "fnAtSum", fn := fun _ => fun
  | [d] => { results := [.lit (.bool false)], args := [d] }
  | _ => none }
def FnAtSumWrongFalsely : Prop := fnAtSumRow.holds Try.pinned (OpenSpec.ofChange fnAtSumWrong)

/-- 'laws.FnAtTwice': WHATEVER THE INPUT: true; the input reads as it did. -/
def fnAtTwiceSpec : ChangeSpec := { name := "fnAtTwice", fn := fun _ => fun
  | [d] => { results := [.lit (.bool true)], args := [d] }
  | _ => none }
def fnAtTwiceRow : OpenClaim := { program := "ytcnaijmmoldbpaa", sum := "221b7bfea4d63b266e8d61f133ba7aed3f0e7dd13747fd57acc68b17cf2bff89", func := "loop.example/lucaspairs/laws.FnAtTwice", spec := "fnAtTwice", unfollowed := true, recurses := true, apart := false }
def FnAtTwiceSaid : Prop := fnAtTwiceRow.holds Try.pinned (OpenSpec.ofChange fnAtTwiceSpec)

/-- ITS FALSE NEIGHBOUR: 'it returns false'. Refute it at one input. -/
def fnAtTwiceWrong : ChangeSpec := { name := "fnAtTwice", fn := fun _ => fun
  | [d] => { results := [.lit (.bool false)], args := [d] }
  | _ => none }
def FnAtTwiceWrongFalsely : Prop := fnAtTwiceRow.holds Try.pinned (OpenSpec.ofChange fnAtTwiceWrong)

/-- 'laws.FnAboutOf': WHATEVER THE INPUT: true; the input reads as it did. -/
def fnAboutOfSpec : ChangeSpec := { name := "fnAboutOf", fn := fun _ => fun
  | [d] => { results := [.lit (.bool true)], args := [d] }
  | _ => none }
def fnAboutOfRow : OpenClaim := { program := "ytcnaijmmoldbpaa", sum := "221b7bfea4d63b266e8d61f133ba7aed3f0e7dd13747fd57acc68b17cf2bff89", func := "loop.example/lucaspairs/laws.FnAboutOf", spec := "fnAboutOf", unfollowed := true, recurses := true, apart := false }
def FnAboutOfSaid : Prop := fnAboutOfRow.holds Try.pinned (OpenSpec.ofChange fnAboutOfSpec)

/-- ITS FALSE NEIGHBOUR: 'it returns false'. Refute it at one input. -/
def fnAboutOfWrong : ChangeSpec := { name := "fnAboutOf", fn := fun _ => fun
  | [d] => { results := [.lit (.bool false)], args := [d] }
  | _ => none }
def FnAboutOfWrongFalsely : Prop := fnAboutOfRow.holds Try.pinned (OpenSpec.ofChange fnAboutOfWrong)

/-- 'laws.FnSumTo': WHATEVER THE INPUT: true; the input reads as it did. -/
def fnSumToSpec : ChangeSpec := { name := "fnSumTo", fn := fun _ => fun
  | [d] => { results := [.lit (.bool true)], args := [d] }
  | _ => none }
def fnSumToRow : OpenClaim := { program := "ytcnaijmmoldbpaa", sum := "221b7bfea4d63b266e8d61f133ba7aed3f0e7dd13747fd57acc68b17cf2bff89", func := "loop.example/lucaspairs/laws.FnSumTo", spec := "fnSumTo", unfollowed := true, recurses := true, apart := false }
def FnSumToSaid : Prop := fnSumToRow.holds Try.pinned (OpenSpec.ofChange fnSumToSpec)

/-- ITS FALSE NEIGHBOUR: 'it returns false'. Refute it at one input. -/
def fnSumToWrong : ChangeSpec := { name := "fnSumTo", fn := fun _ => fun
  | [d] => { results := [.lit (.bool false)], args := [d] }
  | _ => none }
def FnSumToWrongFalsely : Prop := fnSumToRow.holds Try.pinned (OpenSpec.ofChange fnSumToWrong)

/-- 'laws.FnExactAtSum': WHATEVER THE INPUT: true; the input reads as it did. -/
def fnExactAtSumSpec : ChangeSpec := { name := "fnExactAtSum", fn := fun _ => fun
  | [d1, d2, d3] => { results := [.lit (.bool true)], args := [d1, d2, d3] }
  | _ => none }
def fnExactAtSumRow : OpenClaim := { program := "ytcnaijmmoldbpaa", sum := "221b7bfea4d63b266e8d61f133ba7aed3f0e7dd13747fd57acc68b17cf2bff89", func := "loop.example/lucaspairs/laws.FnExactAtSum", spec := "fnExactAtSum", unfollowed := true, recurses := true, apart := false }
def FnExactAtSumSaid : Prop := fnExactAtSumRow.holds Try.pinned (OpenSpec.ofChange fnExactAtSumSpec)

/-- ITS FALSE NEIGHBOUR: 'it returns false'. Refute it at one input. -/
def fnExactAtSumWrong : ChangeSpec := { name := "fnExactAtSum", fn := fun _ => fun
  | [d1, d2, d3] => { results := [.lit (.bool false)], args := [d1, d2, d3] }
  | _ => none }
def FnExactAtSumWrongFalsely : Prop := fnExactAtSumRow.holds Try.pinned (OpenSpec.ofChange fnExactAtSumWrong)

/-- 'laws.FnExactAtTwice': WHATEVER THE INPUT: true; the input reads as it did. -/
def fnExactAtTwiceSpec : ChangeSpec := { name := "fnExactAtTwice", fn := fun _ => fun
  | [d1, d2] => { results := [.lit (.bool true)], args := [d1, d2] }
  | _ => none }
def fnExactAtTwiceRow : OpenClaim := { program := "ytcnaijmmoldbpaa", sum := "221b7bfea4d63b266e8d61f133ba7aed3f0e7dd13747fd57acc68b17cf2bff89", func := "loop.example/lucaspairs/laws.FnExactAtTwice", spec := "fnExactAtTwice", unfollowed := true, recurses := true, apart := false }
def FnExactAtTwiceSaid : Prop := fnExactAtTwiceRow.holds Try.pinned (OpenSpec.ofChange fnExactAtTwiceSpec)

/-- ITS FALSE NEIGHBOUR: 'it returns false'. Refute it at one input. -/
def fnExactAtTwiceWrong : ChangeSpec := { name := "fnExactAtTwice", fn := fun _ => fun
  | [d1, d2] => { results := [.lit (.bool false)], args := [d1, d2] }
  | _ => none }
def FnExactAtTwiceWrongFalsely : Prop := fnExactAtTwiceRow.holds Try.pinned (OpenSpec.ofChange fnExactAtTwiceWrong)

/-- 'laws.FnExactAboutOf': WHATEVER THE INPUT: true; the input reads as it did. -/
def fnExactAboutOfSpec : ChangeSpec := { name := "fnExactAboutOf", fn := fun _ => fun
  | [d1, d2, d3] => { results := [.lit (.bool true)], args := [d1, d2, d3] }
  | _ => none }
def fnExactAboutOfRow : OpenClaim := { program := "ytcnaijmmoldbpaa", sum := "221b7bfea4d63b266e8d61f133ba7aed3f0e7dd13747fd57acc68b17cf2bff89", func := "loop.example/lucaspairs/laws.FnExactAboutOf", spec := "fnExactAboutOf", unfollowed := true, recurses := true, apart := false }
def FnExactAboutOfSaid : Prop := fnExactAboutOfRow.holds Try.pinned (OpenSpec.ofChange fnExactAboutOfSpec)

/-- ITS FALSE NEIGHBOUR: 'it returns false'. Refute it at one input. -/
def fnExactAboutOfWrong : ChangeSpec := { name := "fnExactAboutOf", fn := fun _ => fun
  | [d1, d2, d3] => { results := [.lit (.bool false)], args := [d1, d2, d3] }
  | _ => none }
def FnExactAboutOfWrongFalsely : Prop := fnExactAboutOfRow.holds Try.pinned (OpenSpec.ofChange fnExactAboutOfWrong)

/-- 'laws.FnExactSumTo': WHATEVER THE INPUT: true; the input reads as it did. -/
def fnExactSumToSpec : ChangeSpec := { name := "fnExactSumTo", fn := fun _ => fun
  | [d1, d2] => { results := [.lit (.bool true)], args := [d1, d2] }
  | _ => none }
def fnExactSumToRow : OpenClaim := { program := "ytcnaijmmoldbpaa", sum := "221b7bfea4d63b266e8d61f133ba7aed3f0e7dd13747fd57acc68b17cf2bff89", func := "loop.example/lucaspairs/laws.FnExactSumTo", spec := "fnExactSumTo", unfollowed := true, recurses := true, apart := false }
def FnExactSumToSaid : Prop := fnExactSumToRow.holds Try.pinned (OpenSpec.ofChange fnExactSumToSpec)

/-- ITS FALSE NEIGHBOUR: 'it returns false'. Refute it at one input. -/
def fnExactSumToWrong : ChangeSpec := { name := "fnExactSumTo", fn := fun _ => fun
  | [d1, d2] => { results := [.lit (.bool false)], args := [d1, d2] }
  | _ => none }
def FnExactSumToWrongFalsely : Prop := fnExactSumToRow.holds Try.pinned (OpenSpec.ofChange fnExactSumToWrong)

/- THE SECOND FORM. 'bulk': how many values and letters a reading holds, each counted each time it is reached (what is shared counts as often as it is met; a slice's spare places count too). A statement '..UptoSaid' is the law's where the arguments, and the package variables that the reading takes, are together of bulk at most 1048576: NARROWER than '..Said'. Prove '..Said' where nothing that the law and all that it calls make is longer than what came in: it says more and counts as full. Else prove '..UptoSaid'. A law counts once. -/
mutual
def uptoBulk {H : Type} : DataW H → Nat
  | .lit (.string bytes) => bytes.length + 1
  | .lit _ => 1
  | .nil => 1
  | .ptr d => uptoBulk d + 1
  | .slice elems spare => uptoBulkAll elems + uptoBulkAll spare + 1
  | .agg parts => uptoBulkAll parts + 1
  | .iface _ d => uptoBulk d + 1
  | .map entries => uptoBulkEntries entries + 1
  | .held _ => 1
def uptoBulkAll {H : Type} : List (DataW H) → Nat
  | [] => 0
  | d :: r => uptoBulk d + uptoBulkAll r
def uptoBulkEntries {H : Type} : List (Lit × DataW H) → Nat
  | [] => 0
  | x :: r => uptoBulkEntry x + uptoBulkEntries r
def uptoBulkEntry {H : Type} : Lit × DataW H → Nat
  | (.string bytes, d) => bytes.length + uptoBulk d + 1
  | (_, d) => uptoBulk d + 1
 end
def uptoSmall : (H : Type) → List (DataW H) → Bool := fun _ ds => decide (uptoBulkAll ds ≤ 1048576)
def OpenSpec.upto (s : _root_.Go.ChangeSpec) : _root_.Go.OpenSpec := { _root_.Go.OpenSpec.ofChange s with cond := some uptoSmall }

/-- 'laws.FnAtSum', WHERE WHAT IT READS IS OF BULK AT MOST 1048576: true; the input reads as it did. -/
def fnAtSumUptoRow : OpenClaim := { program := "ytcnaijmmoldbpaa", sum := "221b7bfea4d63b266e8d61f133ba7aed3f0e7dd13747fd57acc68b17cf2bff89", func := "loop.example/lucaspairs/laws.FnAtSum", spec := "fnAtSum", unfollowed := true, recurses := true, apart := false, narrowed := true }
def FnAtSumUptoSaid : Prop := fnAtSumUptoRow.holds Try.pinned (OpenSpec.upto fnAtSumSpec)

/-- 'laws.FnAtTwice', WHERE WHAT IT READS IS OF BULK AT MOST 1048576: true; the input reads as it did. -/
def fnAtTwiceUptoRow : OpenClaim := { program := "ytcnaijmmoldbpaa", sum := "221b7bfea4d63b266e8d61f133ba7aed3f0e7dd13747fd57acc68b17cf2bff89", func := "loop.example/lucaspairs/laws.FnAtTwice", spec := "fnAtTwice", unfollowed := true, recurses := true, apart := false, narrowed := true }
def FnAtTwiceUptoSaid : Prop := fnAtTwiceUptoRow.holds Try.pinned (OpenSpec.upto fnAtTwiceSpec)

/-- 'laws.FnAboutOf', WHERE WHAT IT READS IS OF BULK AT MOST 1048576: true; the input reads as it did. -/
def fnAboutOfUptoRow : OpenClaim := { program := "ytcnaijmmoldbpaa", sum := "221b7bfea4d63b266e8d61f133ba7aed3f0e7dd13747fd57acc68b17cf2bff89", func := "loop.example/lucaspairs/laws.FnAboutOf", spec := "fnAboutOf", unfollowed := true, recurses := true, apart := false, narrowed := true }
def FnAboutOfUptoSaid : Prop := fnAboutOfUptoRow.holds Try.pinned (OpenSpec.upto fnAboutOfSpec)

/-- 'laws.FnSumTo', WHERE WHAT IT READS IS OF BULK AT MOST 1048576: true; the input reads as it did. -/
def fnSumToUptoRow : OpenClaim := { program := "ytcnaijmmoldbpaa", sum := "221b7bfea4d63b266e8d61f133ba7aed3f0e7dd13747fd57acc68b17cf2bff89", func := "loop.example/lucaspairs/laws.FnSumTo", spec := "fnSumTo", unfollowed := true, recurses := true, apart := false, narrowed := true }
def FnSumToUptoSaid : Prop := fnSumToUptoRow.holds Try.pinned (OpenSpec.upto fnSumToSpec)

/-- 'laws.FnExactAtSum', WHERE WHAT IT READS IS OF BULK AT MOST 1048576: true; the input reads as it did. -/
def fnExactAtSumUptoRow : OpenClaim := { program := "ytcnaijmmoldbpaa", sum := "221b7bfea4d63b266e8d61f133ba7aed3f0e7dd13747fd57acc68b17cf2bff89", func := "loop.example/lucaspairs/laws.FnExactAtSum", spec := "fnExactAtSum", unfollowed := true, recurses := true, apart := false, narrowed := true }
def FnExactAtSumUptoSaid : Prop := fnExactAtSumUptoRow.holds Try.pinned (OpenSpec.upto fnExactAtSumSpec)

/-- 'laws.FnExactAtTwice', WHERE WHAT IT READS IS OF BULK AT MOST 1048576: true; the input reads as it did. -/
def fnExactAtTwiceUptoRow : OpenClaim := { program := "ytcnaijmmoldbpaa", sum := "221b7bfea4d63b266e8d61f133ba7aed3f0e7dd13747fd57acc68b17cf2bff89", func := "loop.example/lucaspairs/laws.FnExactAtTwice", spec := "fnExactAtTwice", unfollowed := true, recurses := true, apart := false, narrowed := true }
def FnExactAtTwiceUptoSaid : Prop := fnExactAtTwiceUptoRow.holds Try.pinned (OpenSpec.upto fnExactAtTwiceSpec)

/-- 'laws.FnExactAboutOf', WHERE WHAT IT READS IS OF BULK AT MOST 1048576: true; the input reads as it did. -/
def fnExactAboutOfUptoRow : OpenClaim := { program := "ytcnaijmmoldbpaa", sum := "221b7bfea4d63b266e8d61f133ba7aed3f0e7dd13747fd57acc68b17cf2bff89", func := "loop.example/lucaspairs/laws.FnExactAboutOf", spec := "fnExactAboutOf", unfollowed := true, recurses := true, apart := false, narrowed := true }
def FnExactAboutOfUptoSaid : Prop := fnExactAboutOfUptoRow.holds Try.pinned (OpenSpec.upto fnExactAboutOfSpec)

/-- 'laws.FnExactSumTo', WHERE WHAT IT READS IS OF BULK AT MOST 1048576: true; the input reads as it did. -/
def fnExactSumToUptoRow : OpenClaim := { program := "ytcnaijmmoldbpaa", sum := "221b7bfea4d63b266e8d61f133ba7aed3f0e7dd13747fd57acc68b17cf2bff89", func := "loop.example/lucaspairs/laws.FnExactSumTo", spec := "fnExactSumTo", unfollowed := true, recurses := true, apart := false, narrowed := true }
def FnExactSumToUptoSaid : Prop := fnExactSumToUptoRow.holds Try.pinned (OpenSpec.upto fnExactSumToSpec)

end Rows
end Go.Proofs.Ytcnaijmmoldbpaa
