/-
  No cell of these rows narrows 'for every input' (looked for: loops, veiled, ifaces, maps, wideKeys, modest, calm, conditions, laid).
  DERIVED. THE GIVEN ROWS OF THIS SEAT. 14 by the template 'for every input the law returns true; each argument reads behind the call as it read before'; 0 by the template 'total and deterministic' (their statements: YtlmlcbhllodncaaTotals.lean).
  GIVEN WITH THE SEED: the statements are not yours to turn. If you find one false, say at which input.
  Laid BY PROGRAM, IN A SANDBOX (cutbox-rows.mjs): the forced cells as the released guide's own fill.sh prints them over the translation 30119ef85d7d7d22… (all of the seat's roots in one cut). By AI agents, Wed Nov 11 2026. No macro, syntax, notation, axiom, sorry.
-/
import Derived.Test.YtlmlcbhllodncaaChecked
import GoSem.Claim
import GoSem.ClaimJoined
import GoSem.ClaimMapViews
import Derived.JoinedTies
import Derived.KernelRfl
namespace Go.Proofs.Ytlmlcbhllodncaa
/- THE CELL 'sum', in the pinned program and in every row, IS THE sha256 OF THE DUMP (.gsa) THAT YtlmlcbhllodncaaProg.lean LOADS. Nothing in Lean hashes anything: it is a label: what it is worth is what the hold of that sum in a sandbox is worth. -/
noncomputable def Try.pinned : Pinned := { name := "ytlmlcbhllodncaa", sum := "30119ef85d7d7d22cd8cdd0d860d6e4906d083d56e92af813c21bcee13ad45f2", checked := Try.checked }
namespace Rows
def none {H : Type} : Left H := { results := [], args := [] }

/-- 'laws.FnColoursOk': WHATEVER THE INPUT: true; the input reads as it did. -/
def fnColoursOkSpec : ChangeSpec := { name := "fnColoursOk", fn := fun _ => fun
  | [d] => { results := [.lit (.bool true)], args := [d] }
  | _ => none }
def fnColoursOkRow : OpenClaim := { program := "ytlmlcbhllodncaa", sum := "30119ef85d7d7d22cd8cdd0d860d6e4906d083d56e92af813c21bcee13ad45f2", func := "loop.example/lucaspairs/laws.FnColoursOk", spec := "fnColoursOk", apart := false }
def FnColoursOkSaid : Prop := fnColoursOkRow.holds Try.pinned (OpenSpec.ofChange fnColoursOkSpec)

/-- ITS FALSE NEIGHBOUR: 'it returns false'. Refute it at one input. -/
def fnColoursOkWrong : ChangeSpec := { name := "fnColoursOk", fn := fun _ => fun
  | [d] => { results := [.lit (.bool false)], args := [d] }
  | _ => none }
def FnColoursOkWrongFalsely : Prop := fnColoursOkRow.holds Try.pinned (OpenSpec.ofChange fnColoursOkWrong)

/-- 'laws.FnWaysOf': WHATEVER THE INPUT: true; the input reads as it did. -/
def fnWaysOfSpec : ChangeSpec := { name := "fnWaysOf", fn := fun _ => fun
  | [d] => { results := [.lit (.bool true)], args := [d] }
  | _ => none }
def fnWaysOfRow : OpenClaim := { program := "ytlmlcbhllodncaa", sum := "30119ef85d7d7d22cd8cdd0d860d6e4906d083d56e92af813c21bcee13ad45f2", func := "loop.example/lucaspairs/laws.FnWaysOf", spec := "fnWaysOf", inPlace := ["internal/bytealg.IndexByteString"], unfollowed := true, recurses := true, apart := false }
def FnWaysOfSaid : Prop := fnWaysOfRow.holds Try.pinned (OpenSpec.ofChange fnWaysOfSpec)

/-- ITS FALSE NEIGHBOUR: 'it returns false'. Refute it at one input. -/
def fnWaysOfWrong : ChangeSpec := { name := "fnWaysOf", fn := fun _ => fun
  | [d] => { results := [.lit (.bool false)], args := [d] }
  | _ => none }
def FnWaysOfWrongFalsely : Prop := fnWaysOfRow.holds Try.pinned (OpenSpec.ofChange fnWaysOfWrong)

/-- 'laws.FnCountWays': WHATEVER THE INPUT: true; the input reads as it did. -/
def fnCountWaysSpec : ChangeSpec := { name := "fnCountWays", fn := fun _ => fun
  | [d] => { results := [.lit (.bool true)], args := [d] }
  | _ => none }
def fnCountWaysRow : OpenClaim := { program := "ytlmlcbhllodncaa", sum := "30119ef85d7d7d22cd8cdd0d860d6e4906d083d56e92af813c21bcee13ad45f2", func := "loop.example/lucaspairs/laws.FnCountWays", spec := "fnCountWays", unfollowed := true, recurses := true, apart := false }
def FnCountWaysSaid : Prop := fnCountWaysRow.holds Try.pinned (OpenSpec.ofChange fnCountWaysSpec)

/-- ITS FALSE NEIGHBOUR: 'it returns false'. Refute it at one input. -/
def fnCountWaysWrong : ChangeSpec := { name := "fnCountWays", fn := fun _ => fun
  | [d] => { results := [.lit (.bool false)], args := [d] }
  | _ => none }
def FnCountWaysWrongFalsely : Prop := fnCountWaysRow.holds Try.pinned (OpenSpec.ofChange fnCountWaysWrong)

/-- 'laws.FnCountRings': WHATEVER THE INPUT: true; the input reads as it did. -/
def fnCountRingsSpec : ChangeSpec := { name := "fnCountRings", fn := fun _ => fun
  | [d] => { results := [.lit (.bool true)], args := [d] }
  | _ => none }
def fnCountRingsRow : OpenClaim := { program := "ytlmlcbhllodncaa", sum := "30119ef85d7d7d22cd8cdd0d860d6e4906d083d56e92af813c21bcee13ad45f2", func := "loop.example/lucaspairs/laws.FnCountRings", spec := "fnCountRings", unfollowed := true, recurses := true, apart := false }
def FnCountRingsSaid : Prop := fnCountRingsRow.holds Try.pinned (OpenSpec.ofChange fnCountRingsSpec)

/-- ITS FALSE NEIGHBOUR: 'it returns false'. Refute it at one input. -/
def fnCountRingsWrong : ChangeSpec := { name := "fnCountRings", fn := fun _ => fun
  | [d] => { results := [.lit (.bool false)], args := [d] }
  | _ => none }
def FnCountRingsWrongFalsely : Prop := fnCountRingsRow.holds Try.pinned (OpenSpec.ofChange fnCountRingsWrong)

/-- 'laws.FnCellsOf': WHATEVER THE INPUT: true; the input reads as it did. -/
def fnCellsOfSpec : ChangeSpec := { name := "fnCellsOf", fn := fun _ => fun
  | [d] => { results := [.lit (.bool true)], args := [d] }
  | _ => none }
def fnCellsOfRow : OpenClaim := { program := "ytlmlcbhllodncaa", sum := "30119ef85d7d7d22cd8cdd0d860d6e4906d083d56e92af813c21bcee13ad45f2", func := "loop.example/lucaspairs/laws.FnCellsOf", spec := "fnCellsOf", inPlace := ["internal/bytealg.IndexByteString"], apart := false }
def FnCellsOfSaid : Prop := fnCellsOfRow.holds Try.pinned (OpenSpec.ofChange fnCellsOfSpec)

/-- ITS FALSE NEIGHBOUR: 'it returns false'. Refute it at one input. -/
def fnCellsOfWrong : ChangeSpec := { name := "fnCellsOf", fn := fun _ => fun
  | [d] => { results := [.lit (.bool false)], args := [d] }
  | _ => none }
def FnCellsOfWrongFalsely : Prop := fnCellsOfRow.holds Try.pinned (OpenSpec.ofChange fnCellsOfWrong)

/-- 'laws.FnCutOk': WHATEVER THE INPUT: true; the input reads as it did. -/
def fnCutOkSpec : ChangeSpec := { name := "fnCutOk", fn := fun _ => fun
  | [d] => { results := [.lit (.bool true)], args := [d] }
  | _ => none }
def fnCutOkRow : OpenClaim := { program := "ytlmlcbhllodncaa", sum := "30119ef85d7d7d22cd8cdd0d860d6e4906d083d56e92af813c21bcee13ad45f2", func := "loop.example/lucaspairs/laws.FnCutOk", spec := "fnCutOk", inPlace := ["internal/bytealg.IndexByteString"], apart := false }
def FnCutOkSaid : Prop := fnCutOkRow.holds Try.pinned (OpenSpec.ofChange fnCutOkSpec)

/-- ITS FALSE NEIGHBOUR: 'it returns false'. Refute it at one input. -/
def fnCutOkWrong : ChangeSpec := { name := "fnCutOk", fn := fun _ => fun
  | [d] => { results := [.lit (.bool false)], args := [d] }
  | _ => none }
def FnCutOkWrongFalsely : Prop := fnCutOkRow.holds Try.pinned (OpenSpec.ofChange fnCutOkWrong)

/-- 'laws.FnCountCut': WHATEVER THE INPUT: true; the input reads as it did. -/
def fnCountCutSpec : ChangeSpec := { name := "fnCountCut", fn := fun _ => fun
  | [d] => { results := [.lit (.bool true)], args := [d] }
  | _ => none }
def fnCountCutRow : OpenClaim := { program := "ytlmlcbhllodncaa", sum := "30119ef85d7d7d22cd8cdd0d860d6e4906d083d56e92af813c21bcee13ad45f2", func := "loop.example/lucaspairs/laws.FnCountCut", spec := "fnCountCut", inPlace := ["internal/bytealg.IndexByteString"], unfollowed := true, recurses := true, apart := false }
def FnCountCutSaid : Prop := fnCountCutRow.holds Try.pinned (OpenSpec.ofChange fnCountCutSpec)

/-- ITS FALSE NEIGHBOUR: 'it returns false'. Refute it at one input. -/
def fnCountCutWrong : ChangeSpec := { name := "fnCountCut", fn := fun _ => fun
  | [d] => { results := [.lit (.bool false)], args := [d] }
  | _ => none }
def FnCountCutWrongFalsely : Prop := fnCountCutRow.holds Try.pinned (OpenSpec.ofChange fnCountCutWrong)

/-- 'laws.FnExactColoursOk': WHATEVER THE INPUT: true; the input reads as it did. -/
def fnExactColoursOkSpec : ChangeSpec := { name := "fnExactColoursOk", fn := fun _ => fun
  | [d1, d2] => { results := [.lit (.bool true)], args := [d1, d2] }
  | _ => none }
def fnExactColoursOkRow : OpenClaim := { program := "ytlmlcbhllodncaa", sum := "30119ef85d7d7d22cd8cdd0d860d6e4906d083d56e92af813c21bcee13ad45f2", func := "loop.example/lucaspairs/laws.FnExactColoursOk", spec := "fnExactColoursOk", apart := false }
def FnExactColoursOkSaid : Prop := fnExactColoursOkRow.holds Try.pinned (OpenSpec.ofChange fnExactColoursOkSpec)

/-- ITS FALSE NEIGHBOUR: 'it returns false'. Refute it at one input. -/
def fnExactColoursOkWrong : ChangeSpec := { name := "fnExactColoursOk", fn := fun _ => fun
  | [d1, d2] => { results := [.lit (.bool false)], args := [d1, d2] }
  | _ => none }
def FnExactColoursOkWrongFalsely : Prop := fnExactColoursOkRow.holds Try.pinned (OpenSpec.ofChange fnExactColoursOkWrong)

/-- 'laws.FnExactWaysOf': WHATEVER THE INPUT: true; the input reads as it did. -/
def fnExactWaysOfSpec : ChangeSpec := { name := "fnExactWaysOf", fn := fun _ => fun
  | [d1, d2, d3] => { results := [.lit (.bool true)], args := [d1, d2, d3] }
  | _ => none }
def fnExactWaysOfRow : OpenClaim := { program := "ytlmlcbhllodncaa", sum := "30119ef85d7d7d22cd8cdd0d860d6e4906d083d56e92af813c21bcee13ad45f2", func := "loop.example/lucaspairs/laws.FnExactWaysOf", spec := "fnExactWaysOf", inPlace := ["internal/bytealg.IndexByteString"], unfollowed := true, recurses := true, apart := false }
def FnExactWaysOfSaid : Prop := fnExactWaysOfRow.holds Try.pinned (OpenSpec.ofChange fnExactWaysOfSpec)

/-- ITS FALSE NEIGHBOUR: 'it returns false'. Refute it at one input. -/
def fnExactWaysOfWrong : ChangeSpec := { name := "fnExactWaysOf", fn := fun _ => fun
  | [d1, d2, d3] => { results := [.lit (.bool false)], args := [d1, d2, d3] }
  | _ => none }
def FnExactWaysOfWrongFalsely : Prop := fnExactWaysOfRow.holds Try.pinned (OpenSpec.ofChange fnExactWaysOfWrong)

/-- 'laws.FnExactCountWays': WHATEVER THE INPUT: true; the input reads as it did. -/
def fnExactCountWaysSpec : ChangeSpec := { name := "fnExactCountWays", fn := fun _ => fun
  | [d1, d2, d3] => { results := [.lit (.bool true)], args := [d1, d2, d3] }
  | _ => none }
def fnExactCountWaysRow : OpenClaim := { program := "ytlmlcbhllodncaa", sum := "30119ef85d7d7d22cd8cdd0d860d6e4906d083d56e92af813c21bcee13ad45f2", func := "loop.example/lucaspairs/laws.FnExactCountWays", spec := "fnExactCountWays", unfollowed := true, recurses := true, apart := false }
def FnExactCountWaysSaid : Prop := fnExactCountWaysRow.holds Try.pinned (OpenSpec.ofChange fnExactCountWaysSpec)

/-- ITS FALSE NEIGHBOUR: 'it returns false'. Refute it at one input. -/
def fnExactCountWaysWrong : ChangeSpec := { name := "fnExactCountWays", fn := fun _ => fun
  | [d1, d2, d3] => { results := [.lit (.bool false)], args := [d1, d2, d3] }
  | _ => none }
def FnExactCountWaysWrongFalsely : Prop := fnExactCountWaysRow.holds Try.pinned (OpenSpec.ofChange fnExactCountWaysWrong)

/-- 'laws.FnExactCountRings': WHATEVER THE INPUT: true; the input reads as it did. -/
def fnExactCountRingsSpec : ChangeSpec := { name := "fnExactCountRings", fn := fun _ => fun
  | [d1, d2, d3] => { results := [.lit (.bool true)], args := [d1, d2, d3] }
  | _ => none }
def fnExactCountRingsRow : OpenClaim := { program := "ytlmlcbhllodncaa", sum := "30119ef85d7d7d22cd8cdd0d860d6e4906d083d56e92af813c21bcee13ad45f2", func := "loop.example/lucaspairs/laws.FnExactCountRings", spec := "fnExactCountRings", unfollowed := true, recurses := true, apart := false }
def FnExactCountRingsSaid : Prop := fnExactCountRingsRow.holds Try.pinned (OpenSpec.ofChange fnExactCountRingsSpec)

/-- ITS FALSE NEIGHBOUR: 'it returns false'. Refute it at one input. -/
def fnExactCountRingsWrong : ChangeSpec := { name := "fnExactCountRings", fn := fun _ => fun
  | [d1, d2, d3] => { results := [.lit (.bool false)], args := [d1, d2, d3] }
  | _ => none }
def FnExactCountRingsWrongFalsely : Prop := fnExactCountRingsRow.holds Try.pinned (OpenSpec.ofChange fnExactCountRingsWrong)

/-- 'laws.FnExactCellsOf': WHATEVER THE INPUT: true; the input reads as it did. -/
def fnExactCellsOfSpec : ChangeSpec := { name := "fnExactCellsOf", fn := fun _ => fun
  | [d] => { results := [.lit (.bool true)], args := [d] }
  | _ => none }
def fnExactCellsOfRow : OpenClaim := { program := "ytlmlcbhllodncaa", sum := "30119ef85d7d7d22cd8cdd0d860d6e4906d083d56e92af813c21bcee13ad45f2", func := "loop.example/lucaspairs/laws.FnExactCellsOf", spec := "fnExactCellsOf", inPlace := ["internal/bytealg.IndexByteString"], apart := false }
def FnExactCellsOfSaid : Prop := fnExactCellsOfRow.holds Try.pinned (OpenSpec.ofChange fnExactCellsOfSpec)

/-- ITS FALSE NEIGHBOUR: 'it returns false'. Refute it at one input. -/
def fnExactCellsOfWrong : ChangeSpec := { name := "fnExactCellsOf", fn := fun _ => fun
  | [d] => { results := [.lit (.bool false)], args := [d] }
  | _ => none }
def FnExactCellsOfWrongFalsely : Prop := fnExactCellsOfRow.holds Try.pinned (OpenSpec.ofChange fnExactCellsOfWrong)

/-- 'laws.FnExactCutOk': WHATEVER THE INPUT: true; the input reads as it did. -/
def fnExactCutOkSpec : ChangeSpec := { name := "fnExactCutOk", fn := fun _ => fun
  | [d1, d2] => { results := [.lit (.bool true)], args := [d1, d2] }
  | _ => none }
def fnExactCutOkRow : OpenClaim := { program := "ytlmlcbhllodncaa", sum := "30119ef85d7d7d22cd8cdd0d860d6e4906d083d56e92af813c21bcee13ad45f2", func := "loop.example/lucaspairs/laws.FnExactCutOk", spec := "fnExactCutOk", inPlace := ["internal/bytealg.IndexByteString"], apart := false }
def FnExactCutOkSaid : Prop := fnExactCutOkRow.holds Try.pinned (OpenSpec.ofChange fnExactCutOkSpec)

/-- ITS FALSE NEIGHBOUR: 'it returns false'. Refute it at one input. -/
def fnExactCutOkWrong : ChangeSpec := { name := "fnExactCutOk", fn := fun _ => fun
  | [d1, d2] => { results := [.lit (.bool false)], args := [d1, d2] }
  | _ => none }
def FnExactCutOkWrongFalsely : Prop := fnExactCutOkRow.holds Try.pinned (OpenSpec.ofChange fnExactCutOkWrong)

/-- 'laws.FnExactCountCut': WHATEVER THE INPUT: true; the input reads as it did. -/
def fnExactCountCutSpec : ChangeSpec := { name := "fnExactCountCut", fn := fun _ => fun
  | [d1, d2, d3, d4] => { results := [.lit (.bool true)], args := [d1, d2, d3, d4] }
  | _ => none }
def fnExactCountCutRow : OpenClaim := { program := "ytlmlcbhllodncaa", sum := "30119ef85d7d7d22cd8cdd0d860d6e4906d083d56e92af813c21bcee13ad45f2", func := "loop.example/lucaspairs/laws.FnExactCountCut", spec := "fnExactCountCut", unfollowed := true, recurses := true, apart := false }
def FnExactCountCutSaid : Prop := fnExactCountCutRow.holds Try.pinned (OpenSpec.ofChange fnExactCountCutSpec)

/-- ITS FALSE NEIGHBOUR: 'it returns false'. Refute it at one input. -/
def fnExactCountCutWrong : ChangeSpec := { name := "fnExactCountCut", fn := fun _ => fun
  | [d1, d2, d3, d4] => { results := [.lit (.bool false)], args := [d1, d2, d3, d4] }
  | _ => none }
def FnExactCountCutWrongFalsely : Prop := fnExactCountCutRow.holds Try.pinned (OpenSpec.ofChange fnExactCountCutWrong)

/- THE SECOND FORM. 'bulk': how many values and letters a reading holds, each counted each time it is reached (what is shared counts as often as it is met; a slice's spare places count too). A statement '..UptoSaid' is the law's where the arguments, and the package variables that the reading takes, are together of bulk at most 1048576: NARROWER than '..Said'. Prove '..Said' where nothing that the law and all that it calls make is longer than what came in: it says more and counts as full. Else prove '..UptoSaid'. A law counts once. -/
mutual
def uptoBulk {H : Type} : DataW H → Nat
  | .lit (.string bytes) => bytes.length + 1
  | .lit _ => 1
  | .nil => 1
  | .ptr d => uptoBulk d + 1
  | .slice elems spare => uptoBulkAll elems + uptoBulkAll spare + 1
  | .agg parts => uptoBulkAll parts + 1
  | .iface _ d => uptoBulk d + 1
  | .map entries => uptoBulkEntries entries + 1
  | .held _ => 1
def uptoBulkAll {H : Type} : List (DataW H) → Nat
  | [] => 0
  | d :: r => uptoBulk d + uptoBulkAll r
def uptoBulkEntries {H : Type} : List (Lit × DataW H) → Nat
  | [] => 0
  | x :: r => uptoBulkEntry x + uptoBulkEntries r
def uptoBulkEntry {H : Type} : Lit × DataW H → Nat
  | (.string bytes, d) => bytes.length + uptoBulk d + 1
  | (_, d) => uptoBulk d + 1
 end
def uptoSmall : (H : Type) → List (DataW H) → Bool := fun _ ds => decide (uptoBulkAll ds ≤ 1048576)
def OpenSpec.upto (s : _root_.Go.ChangeSpec) : _root_.Go.OpenSpec := { _root_.Go.OpenSpec.ofChange s with cond := some uptoSmall }

/-- 'laws.FnColoursOk', WHERE WHAT IT READS IS OF BULK AT MOST 1048576: true; the input reads as it did. -/
def fnColoursOkUptoRow : OpenClaim := { program := "ytlmlcbhllodncaa", sum := "30119ef85d7d7d22cd8cdd0d860d6e4906d083d56e92af813c21bcee13ad45f2", func := "loop.example/lucaspairs/laws.FnColoursOk", spec := "fnColoursOk", apart := false, narrowed := true }
def FnColoursOkUptoSaid : Prop := fnColoursOkUptoRow.holds Try.pinned (OpenSpec.upto fnColoursOkSpec)

/-- 'laws.FnWaysOf', WHERE WHAT IT READS IS OF BULK AT MOST 1048576: true; the input reads as it did. -/
def fnWaysOfUptoRow : OpenClaim := { program := "ytlmlcbhllodncaa", sum := "30119ef85d7d7d22cd8cdd0d860d6e4906d083d56e92af813c21bcee13ad45f2", func := "loop.example/lucaspairs/laws.FnWaysOf", spec := "fnWaysOf", inPlace := ["internal/bytealg.IndexByteString"], unfollowed := true, recurses := true, apart := false, narrowed := true }
def FnWaysOfUptoSaid : Prop := fnWaysOfUptoRow.holds Try.pinned (OpenSpec.upto fnWaysOfSpec)

/-- 'laws.FnCountWays', WHERE WHAT IT READS IS OF BULK AT MOST 1048576: true; the input reads as it did. -/
def fnCountWaysUptoRow : OpenClaim := { program := "ytlmlcbhllodncaa", sum := "30119ef85d7d7d22cd8cdd0d860d6e4906d083d56e92af813c21bcee13ad45f2", func := "loop.example/lucaspairs/laws.FnCountWays", spec := "fnCountWays", unfollowed := true, recurses := true, apart := false, narrowed := true }
def FnCountWaysUptoSaid : Prop := fnCountWaysUptoRow.holds Try.pinned (OpenSpec.upto fnCountWaysSpec)

/-- 'laws.FnCountRings', WHERE WHAT IT READS IS OF BULK AT MOST 1048576: true; the input reads as it did. -/
def fnCountRingsUptoRow : OpenClaim := { program := "ytlmlcbhllodncaa", sum := "30119ef85d7d7d22cd8cdd0d860d6e4906d083d56e92af813c21bcee13ad45f2", func := "loop.example/lucaspairs/laws.FnCountRings", spec := "fnCountRings", unfollowed := true, recurses := true, apart := false, narrowed := true }
def FnCountRingsUptoSaid : Prop := fnCountRingsUptoRow.holds Try.pinned (OpenSpec.upto fnCountRingsSpec)

/-- 'laws.FnCellsOf', WHERE WHAT IT READS IS OF BULK AT MOST 1048576: true; the input reads as it did. -/
def fnCellsOfUptoRow : OpenClaim := { program := "ytlmlcbhllodncaa", sum := "30119ef85d7d7d22cd8cdd0d860d6e4906d083d56e92af813c21bcee13ad45f2", func := "loop.example/lucaspairs/laws.FnCellsOf", spec := "fnCellsOf", inPlace := ["internal/bytealg.IndexByteString"], apart := false, narrowed := true }
def FnCellsOfUptoSaid : Prop := fnCellsOfUptoRow.holds Try.pinned (OpenSpec.upto fnCellsOfSpec)

/-- 'laws.FnCutOk', WHERE WHAT IT READS IS OF BULK AT MOST 1048576: true; the input reads as it did. -/
def fnCutOkUptoRow : OpenClaim := { program := "ytlmlcbhllodncaa", sum := "30119ef85d7d7d22cd8cdd0d860d6e4906d083d56e92af813c21bcee13ad45f2", func := "loop.example/lucaspairs/laws.FnCutOk", spec := "fnCutOk", inPlace := ["internal/bytealg.IndexByteString"], apart := false, narrowed := true }
def FnCutOkUptoSaid : Prop := fnCutOkUptoRow.holds Try.pinned (OpenSpec.upto fnCutOkSpec)

/-- 'laws.FnCountCut', WHERE WHAT IT READS IS OF BULK AT MOST 1048576: true; the input reads as it did. -/
def fnCountCutUptoRow : OpenClaim := { program := "ytlmlcbhllodncaa", sum := "30119ef85d7d7d22cd8cdd0d860d6e4906d083d56e92af813c21bcee13ad45f2", func := "loop.example/lucaspairs/laws.FnCountCut", spec := "fnCountCut", inPlace := ["internal/bytealg.IndexByteString"], unfollowed := true, recurses := true, apart := false, narrowed := true }
def FnCountCutUptoSaid : Prop := fnCountCutUptoRow.holds Try.pinned (OpenSpec.upto fnCountCutSpec)

/-- 'laws.FnExactColoursOk', WHERE WHAT IT READS IS OF BULK AT MOST 1048576: true; the input reads as it did. -/
def fnExactColoursOkUptoRow : OpenClaim := { program := "ytlmlcbhllodncaa", sum := "30119ef85d7d7d22cd8cdd0d860d6e4906d083d56e92af813c21bcee13ad45f2", func := "loop.example/lucaspairs/laws.FnExactColoursOk", spec := "fnExactColoursOk", apart := false, narrowed := true }
def FnExactColoursOkUptoSaid : Prop := fnExactColoursOkUptoRow.holds Try.pinned (OpenSpec.upto fnExactColoursOkSpec)

/-- 'laws.FnExactWaysOf', WHERE WHAT IT READS IS OF BULK AT MOST 1048576: true; the input reads as it did. -/
def fnExactWaysOfUptoRow : OpenClaim := { program := "ytlmlcbhllodncaa", sum := "30119ef85d7d7d22cd8cdd0d860d6e4906d083d56e92af813c21bcee13ad45f2", func := "loop.example/lucaspairs/laws.FnExactWaysOf", spec := "fnExactWaysOf", inPlace := ["internal/bytealg.IndexByteString"], unfollowed := true, recurses := true, apart := false, narrowed := true }
def FnExactWaysOfUptoSaid : Prop := fnExactWaysOfUptoRow.holds Try.pinned (OpenSpec.upto fnExactWaysOfSpec)

/-- 'laws.FnExactCountWays', WHERE WHAT IT READS IS OF BULK AT MOST 1048576: true; the input reads as it did. -/
def fnExactCountWaysUptoRow : OpenClaim := { program := "ytlmlcbhllodncaa", sum := "30119ef85d7d7d22cd8cdd0d860d6e4906d083d56e92af813c21bcee13ad45f2", func := "loop.example/lucaspairs/laws.FnExactCountWays", spec := "fnExactCountWays", unfollowed := true, recurses := true, apart := false, narrowed := true }
def FnExactCountWaysUptoSaid : Prop := fnExactCountWaysUptoRow.holds Try.pinned (OpenSpec.upto fnExactCountWaysSpec)

/-- 'laws.FnExactCountRings', WHERE WHAT IT READS IS OF BULK AT MOST 1048576: true; the input reads as it did. -/
def fnExactCountRingsUptoRow : OpenClaim := { program := "ytlmlcbhllodncaa", sum := "30119ef85d7d7d22cd8cdd0d860d6e4906d083d56e92af813c21bcee13ad45f2", func := "loop.example/lucaspairs/laws.FnExactCountRings", spec := "fnExactCountRings", unfollowed := true, recurses := true, apart := false, narrowed := true }
def FnExactCountRingsUptoSaid : Prop := fnExactCountRingsUptoRow.holds Try.pinned (OpenSpec.upto fnExactCountRingsSpec)

/-- 'laws.FnExactCellsOf', WHERE WHAT IT READS IS OF BULK AT MOST 1048576: true; the input reads as it did. -/
def fnExactCellsOfUptoRow : OpenClaim := { program := "ytlmlcbhllodncaa", sum := "30119ef85d7d7d22cd8cdd0d860d6e4906d083d56e92af813c21bcee13ad45f2", func := "loop.example/lucaspairs/laws.FnExactCellsOf", spec := "fnExactCellsOf", inPlace := ["internal/bytealg.IndexByteString"], apart := false, narrowed := true }
def FnExactCellsOfUptoSaid : Prop := fnExactCellsOfUptoRow.holds Try.pinned (OpenSpec.upto fnExactCellsOfSpec)

/-- 'laws.FnExactCutOk', WHERE WHAT IT READS IS OF BULK AT MOST 1048576: true; the input reads as it did. -/
def fnExactCutOkUptoRow : OpenClaim := { program := "ytlmlcbhllodncaa", sum := "30119ef85d7d7d22cd8cdd0d860d6e4906d083d56e92af813c21bcee13ad45f2", func := "loop.example/lucaspairs/laws.FnExactCutOk", spec := "fnExactCutOk", inPlace := ["internal/bytealg.IndexByteString"], apart := false, narrowed := true }
def FnExactCutOkUptoSaid : Prop := fnExactCutOkUptoRow.holds Try.pinned (OpenSpec.upto fnExactCutOkSpec)

/-- 'laws.FnExactCountCut', WHERE WHAT IT READS IS OF BULK AT MOST 1048576: true; the input reads as it did. -/
def fnExactCountCutUptoRow : OpenClaim := { program := "ytlmlcbhllodncaa", sum := "30119ef85d7d7d22cd8cdd0d860d6e4906d083d56e92af813c21bcee13ad45f2", func := "loop.example/lucaspairs/laws.FnExactCountCut", spec := "fnExactCountCut", unfollowed := true, recurses := true, apart := false, narrowed := true }
def FnExactCountCutUptoSaid : Prop := fnExactCountCutUptoRow.holds Try.pinned (OpenSpec.upto fnExactCountCutSpec)

end Rows
end Go.Proofs.Ytlmlcbhllodncaa
