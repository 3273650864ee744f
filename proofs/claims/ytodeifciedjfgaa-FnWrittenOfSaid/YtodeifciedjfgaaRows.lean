/-
  No cell of these rows narrows 'for every input' (looked for: loops, veiled, ifaces, maps, wideKeys, modest, calm, conditions, laid).
  DERIVED. THE GIVEN ROWS OF THIS SEAT. 10 by the template 'for every input the law returns true; each argument reads behind the call as it read before'; 0 by the template 'total and deterministic' (their statements: YtodeifciedjfgaaTotals.lean).
  GIVEN WITH THE SEED: the statements are not yours to turn. If you find one false, say at which input.
  Laid BY PROGRAM, IN A SANDBOX (cutbox-rows.mjs): the forced cells as the released guide's own fill.sh prints them over the translation db2508e8f64e6ab0… (all of the seat's roots in one cut). By AI agents, Wed Nov 11 2026. No macro, syntax, notation, axiom, sorry.
-/
import Derived.Test.YtodeifciedjfgaaChecked
import GoSem.Claim
import GoSem.ClaimJoined
import GoSem.ClaimMapViews
import Derived.JoinedTies
import Derived.KernelRfl
namespace Go.Proofs.Ytodeifciedjfgaa
/- THE CELL 'sum', in the pinned program and in every row, IS THE sha256 OF THE DUMP (.gsa) THAT YtodeifciedjfgaaProg.lean LOADS. Nothing in Lean hashes anything: it is a label: what it is worth is what the hold of that sum in a sandbox is worth. -/
noncomputable def Try.pinned : Pinned := { name := "ytodeifciedjfgaa", sum := "db2508e8f64e6ab0506eb988dc84253f6cfe075f87833071896458b4d74750df", checked := Try.checked }
namespace Rows
def none {H : Type} : Left H := { results := [], args := [] }

/-- 'laws.FnPlacesOf': WHATEVER THE INPUT: true; the input reads as it did. -/
def fnPlacesOfSpec : ChangeSpec := { name := "fnPlacesOf", fn := fun _ => fun
  | [d] => { results := [.lit (.bool true)], args := [d] }
  | _ => none }
def fnPlacesOfRow : OpenClaim := { program := "ytodeifciedjfgaa", sum := "db2508e8f64e6ab0506eb988dc84253f6cfe075f87833071896458b4d74750df", func := "loop.example/lucaspairs/laws.FnPlacesOf", spec := "fnPlacesOf", unfollowed := true, recurses := true, apart := false }
def FnPlacesOfSaid : Prop := fnPlacesOfRow.holds Try.pinned (OpenSpec.ofChange fnPlacesOfSpec)

/-- ITS FALSE NEIGHBOUR: 'it returns false'. Refute it at one input. -/
def fnPlacesOfWrong : ChangeSpec := { name := "fnPlacesOf", fn := fun _ => fun
  | [d] => { results := [.lit (.bool false)], args := [d] }
  | _ => none }
def FnPlacesOfWrongFalsely : Prop := fnPlacesOfRow.holds Try.pinned (OpenSpec.ofChange fnPlacesOfWrong)

/-- 'laws.FnWrittenOf': WHATEVER THE INPUT: true; the input reads as it did. -/
def fnWrittenOfSpec : ChangeSpec := { name := "fnWrittenOf", fn := fun _ => fun
  | [d] => { results := [.lit (.bool true)], args := [d] }
  | _ => none }
def fnWrittenOfRow : OpenClaim := { program := "ytodeifciedjfgaa", sum := "db2508e8f64e6ab0506eb988dc84253f6cfe075f87833071896458b4d74750df", func := "loop.example/lucaspairs/laws.FnWrittenOf", spec := "fnWrittenOf", inPlace := ["internal/abi.NoEscape"], unfollowed := true, recurses := true, apart := false }
def FnWrittenOfSaid : Prop := fnWrittenOfRow.holds Try.pinned (OpenSpec.ofChange fnWrittenOfSpec)

/-- ITS FALSE NEIGHBOUR: 'it returns false'. Refute it at one input. -/
def fnWrittenOfWrong : ChangeSpec := { name := "fnWrittenOf", fn := fun _ => fun
  | [d] => { results := [.lit (.bool false)], args := [d] }
  | _ => none }
def FnWrittenOfWrongFalsely : Prop := fnWrittenOfRow.holds Try.pinned (OpenSpec.ofChange fnWrittenOfWrong)

/-- 'laws.FnReadWritten': WHATEVER THE INPUT: true; the input reads as it did. -/
def fnReadWrittenSpec : ChangeSpec := { name := "fnReadWritten", fn := fun _ => fun
  | [d] => { results := [.lit (.bool true)], args := [d] }
  | _ => none }
def fnReadWrittenRow : OpenClaim := { program := "ytodeifciedjfgaa", sum := "db2508e8f64e6ab0506eb988dc84253f6cfe075f87833071896458b4d74750df", func := "loop.example/lucaspairs/laws.FnReadWritten", spec := "fnReadWritten", inPlace := ["internal/abi.NoEscape"], unfollowed := true, recurses := true, apart := false }
def FnReadWrittenSaid : Prop := fnReadWrittenRow.holds Try.pinned (OpenSpec.ofChange fnReadWrittenSpec)

/-- ITS FALSE NEIGHBOUR: 'it returns false'. Refute it at one input. -/
def fnReadWrittenWrong : ChangeSpec := { name := "fnReadWritten", fn := fun _ => fun
  | [d] => { results := [.lit (.bool false)], args := [d] }
  | _ => none }
def FnReadWrittenWrongFalsely : Prop := fnReadWrittenRow.holds Try.pinned (OpenSpec.ofChange fnReadWrittenWrong)

/-- 'laws.FnCircleOf': WHATEVER THE INPUT: true; the input reads as it did. -/
def fnCircleOfSpec : ChangeSpec := { name := "fnCircleOf", fn := fun _ => fun
  | [d1, d2] => { results := [.lit (.bool true)], args := [d1, d2] }
  | _ => none }
def fnCircleOfRow : OpenClaim := { program := "ytodeifciedjfgaa", sum := "db2508e8f64e6ab0506eb988dc84253f6cfe075f87833071896458b4d74750df", func := "loop.example/lucaspairs/laws.FnCircleOf", spec := "fnCircleOf", unfollowed := true, recurses := true, apart := false }
def FnCircleOfSaid : Prop := fnCircleOfRow.holds Try.pinned (OpenSpec.ofChange fnCircleOfSpec)

/-- ITS FALSE NEIGHBOUR: 'it returns false'. Refute it at one input. -/
def fnCircleOfWrong : ChangeSpec := { name := "fnCircleOf", fn := fun _ => fun
  | [d1, d2] => { results := [.lit (.bool false)], args := [d1, d2] }
  | _ => none }
def FnCircleOfWrongFalsely : Prop := fnCircleOfRow.holds Try.pinned (OpenSpec.ofChange fnCircleOfWrong)

/-- 'laws.FnShiftedBy': WHATEVER THE INPUT: true; the input reads as it did. -/
def fnShiftedBySpec : ChangeSpec := { name := "fnShiftedBy", fn := fun _ => fun
  | [d] => { results := [.lit (.bool true)], args := [d] }
  | _ => none }
def fnShiftedByRow : OpenClaim := { program := "ytodeifciedjfgaa", sum := "db2508e8f64e6ab0506eb988dc84253f6cfe075f87833071896458b4d74750df", func := "loop.example/lucaspairs/laws.FnShiftedBy", spec := "fnShiftedBy", unfollowed := true, recurses := true, apart := false }
def FnShiftedBySaid : Prop := fnShiftedByRow.holds Try.pinned (OpenSpec.ofChange fnShiftedBySpec)

/-- ITS FALSE NEIGHBOUR: 'it returns false'. Refute it at one input. -/
def fnShiftedByWrong : ChangeSpec := { name := "fnShiftedBy", fn := fun _ => fun
  | [d] => { results := [.lit (.bool false)], args := [d] }
  | _ => none }
def FnShiftedByWrongFalsely : Prop := fnShiftedByRow.holds Try.pinned (OpenSpec.ofChange fnShiftedByWrong)

/-- 'laws.FnExactPlacesOf': WHATEVER THE INPUT: true; the input reads as it did. -/
def fnExactPlacesOfSpec : ChangeSpec := { name := "fnExactPlacesOf", fn := fun _ => fun
  | [d] => { results := [.lit (.bool true)], args := [d] }
  | _ => none }
def fnExactPlacesOfRow : OpenClaim := { program := "ytodeifciedjfgaa", sum := "db2508e8f64e6ab0506eb988dc84253f6cfe075f87833071896458b4d74750df", func := "loop.example/lucaspairs/laws.FnExactPlacesOf", spec := "fnExactPlacesOf", unfollowed := true, recurses := true, apart := false }
def FnExactPlacesOfSaid : Prop := fnExactPlacesOfRow.holds Try.pinned (OpenSpec.ofChange fnExactPlacesOfSpec)

/-- ITS FALSE NEIGHBOUR: 'it returns false'. Refute it at one input. -/
def fnExactPlacesOfWrong : ChangeSpec := { name := "fnExactPlacesOf", fn := fun _ => fun
  | [d] => { results := [.lit (.bool false)], args := [d] }
  | _ => none }
def FnExactPlacesOfWrongFalsely : Prop := fnExactPlacesOfRow.holds Try.pinned (OpenSpec.ofChange fnExactPlacesOfWrong)

/-- 'laws.FnExactWrittenOf': WHATEVER THE INPUT: true; the input reads as it did. -/
def fnExactWrittenOfSpec : ChangeSpec := { name := "fnExactWrittenOf", fn := fun _ => fun
  | [d] => { results := [.lit (.bool true)], args := [d] }
  | _ => none }
def fnExactWrittenOfRow : OpenClaim := { program := "ytodeifciedjfgaa", sum := "db2508e8f64e6ab0506eb988dc84253f6cfe075f87833071896458b4d74750df", func := "loop.example/lucaspairs/laws.FnExactWrittenOf", spec := "fnExactWrittenOf", inPlace := ["internal/abi.NoEscape"], unfollowed := true, recurses := true, apart := false }
def FnExactWrittenOfSaid : Prop := fnExactWrittenOfRow.holds Try.pinned (OpenSpec.ofChange fnExactWrittenOfSpec)

/-- ITS FALSE NEIGHBOUR: 'it returns false'. Refute it at one input. -/
def fnExactWrittenOfWrong : ChangeSpec := { name := "fnExactWrittenOf", fn := fun _ => fun
  | [d] => { results := [.lit (.bool false)], args := [d] }
  | _ => none }
def FnExactWrittenOfWrongFalsely : Prop := fnExactWrittenOfRow.holds Try.pinned (OpenSpec.ofChange fnExactWrittenOfWrong)

/-- 'laws.FnExactReadWritten': WHATEVER THE INPUT: true; the input reads as it did. -/
def fnExactReadWrittenSpec : ChangeSpec := { name := "fnExactReadWritten", fn := fun _ => fun
  | [d] => { results := [.lit (.bool true)], args := [d] }
  | _ => none }
def fnExactReadWrittenRow : OpenClaim := { program := "ytodeifciedjfgaa", sum := "db2508e8f64e6ab0506eb988dc84253f6cfe075f87833071896458b4d74750df", func := "loop.example/lucaspairs/laws.FnExactReadWritten", spec := "fnExactReadWritten", inPlace := ["internal/abi.NoEscape"], unfollowed := true, recurses := true, apart := false }
def FnExactReadWrittenSaid : Prop := fnExactReadWrittenRow.holds Try.pinned (OpenSpec.ofChange fnExactReadWrittenSpec)

/-- ITS FALSE NEIGHBOUR: 'it returns false'. Refute it at one input. -/
def fnExactReadWrittenWrong : ChangeSpec := { name := "fnExactReadWritten", fn := fun _ => fun
  | [d] => { results := [.lit (.bool false)], args := [d] }
  | _ => none }
def FnExactReadWrittenWrongFalsely : Prop := fnExactReadWrittenRow.holds Try.pinned (OpenSpec.ofChange fnExactReadWrittenWrong)

/-- 'laws.FnExactCircleOf': WHATEVER THE INPUT: true; the input reads as it did. -/
def fnExactCircleOfSpec : ChangeSpec := { name := "fnExactCircleOf", fn := fun _ => fun
  | [d1, d2] => { results := [.lit (.bool true)], args := [d1, d2] }
  | _ => none }
def fnExactCircleOfRow : OpenClaim := { program := "ytodeifciedjfgaa", sum := "db2508e8f64e6ab0506eb988dc84253f6cfe075f87833071896458b4d74750df", func := "loop.example/lucaspairs/laws.FnExactCircleOf", spec := "fnExactCircleOf", unfollowed := true, recurses := true, apart := false }
def FnExactCircleOfSaid : Prop := fnExactCircleOfRow.holds Try.pinned (OpenSpec.ofChange fnExactCircleOfSpec)

/-- ITS FALSE NEIGHBOUR: 'it returns false'. Refute it at one input. -/
def fnExactCircleOfWrong : ChangeSpec := { name := "fnExactCircleOf", fn := fun _ => fun
  | [d1, d2] => { results := [.lit (.bool false)], args := [d1, d2] }
  | _ => none }
def FnExactCircleOfWrongFalsely : Prop := fnExactCircleOfRow.holds Try.pinned (OpenSpec.ofChange fnExactCircleOfWrong)

/-- 'laws.FnExactShiftedBy': WHATEVER THE INPUT: true; the input reads as it did. -/
def fnExactShiftedBySpec : ChangeSpec := { name := "fnExactShiftedBy", fn := fun _ => fun
  | [d1, d2] => { results := [.lit (.bool true)], args := [d1, d2] }
  | _ => none }
def fnExactShiftedByRow : OpenClaim := { program := "ytodeifciedjfgaa", sum := "db2508e8f64e6ab0506eb988dc84253f6cfe075f87833071896458b4d74750df", func := "loop.example/lucaspairs/laws.FnExactShiftedBy", spec := "fnExactShiftedBy", unfollowed := true, recurses := true, apart := false }
def FnExactShiftedBySaid : Prop := fnExactShiftedByRow.holds Try.pinned (OpenSpec.ofChange fnExactShiftedBySpec)

/-- ITS FALSE NEIGHBOUR: 'it returns false'. Refute it at one input. -/
def fnExactShiftedByWrong : ChangeSpec := { name := "fnExactShiftedBy", fn := fun _ => fun
  | [d1, d2] => { results := [.lit (.bool false)], args := [d1, d2] }
  | _ => none }
def FnExactShiftedByWrongFalsely : Prop := fnExactShiftedByRow.holds Try.pinned (OpenSpec.ofChange fnExactShiftedByWrong)

/- THE SECOND FORM. 'bulk': how many values and letters a reading holds, each counted each time it is reached (what is shared counts as often as it is met; a slice's spare places count too). A statement '..UptoSaid' is the law's where the arguments, and the package variables that the reading takes, are together of bulk at most 1048576: NARROWER than '..Said'. Prove '..Said' where nothing that the law and all that it calls make is longer than what came in: it says more and counts as full. Else prove '..UptoSaid'. A law counts once. -/
mutual
def uptoBulk {H : Type} : DataW H → Nat
  | .lit (.string bytes) => bytes.length + 1
  | .lit _ => 1
  | .nil => 1
  | .ptr d => uptoBulk d + 1
  | .slice elems spare => uptoBulkAll elems + uptoBulkAll spare + 1
  | .agg parts => uptoBulkAll parts + 1
  | .iface _ d => uptoBulk d + 1
  | .map entries => uptoBulkEntries entries + 1
  | .held _ => 1
def uptoBulkAll {H : Type} : List (DataW H) → Nat
  | [] => 0
  | d :: r => uptoBulk d + uptoBulkAll r
def uptoBulkEntries {H : Type} : List (Lit × DataW H) → Nat
  | [] => 0
  | x :: r => uptoBulkEntry x + uptoBulkEntries r
def uptoBulkEntry {H : Type} : Lit × DataW H → Nat
  | (.string bytes, d) => bytes.length + uptoBulk d + 1
  | (_, d) => uptoBulk d + 1
 end
def uptoSmall : (H : Type) → List (DataW H) → Bool := fun _ ds => decide (uptoBulkAll ds ≤ 1048576)
def OpenSpec.upto (s : _root_.Go.ChangeSpec) : _root_.Go.OpenSpec := { _root_.Go.OpenSpec.ofChange s with cond := some uptoSmall }

/-- 'laws.FnPlacesOf', WHERE WHAT IT READS IS OF BULK AT MOST 1048576: true; the input reads as it did. -/
def fnPlacesOfUptoRow : OpenClaim := { program := "ytodeifciedjfgaa", sum := "db2508e8f64e6ab0506eb988dc84253f6cfe075f87833071896458b4d74750df", func := "loop.example/lucaspairs/laws.FnPlacesOf", spec := "fnPlacesOf", unfollowed := true, recurses := true, apart := false, narrowed := true }
def FnPlacesOfUptoSaid : Prop := fnPlacesOfUptoRow.holds Try.pinned (OpenSpec.upto fnPlacesOfSpec)

/-- 'laws.FnWrittenOf', WHERE WHAT IT READS IS OF BULK AT MOST 1048576: true; the input reads as it did. -/
def fnWrittenOfUptoRow : OpenClaim := { program := "ytodeifciedjfgaa", sum := "db2508e8f64e6ab0506eb988dc84253f6cfe075f87833071896458b4d74750df", func := "loop.example/lucaspairs/laws.FnWrittenOf", spec := "fnWrittenOf", inPlace := ["internal/abi.NoEscape"], unfollowed := true, recurses := true, apart := false, narrowed := true }
def FnWrittenOfUptoSaid : Prop := fnWrittenOfUptoRow.holds Try.pinned (OpenSpec.upto fnWrittenOfSpec)

/-- 'laws.FnReadWritten', WHERE WHAT IT READS IS OF BULK AT MOST 1048576: true; the input reads as it did. -/
def fnReadWrittenUptoRow : OpenClaim := { program := "ytodeifciedjfgaa", sum := "db2508e8f64e6ab0506eb988dc84253f6cfe075f87833071896458b4d74750df", func := "loop.example/lucaspairs/laws.FnReadWritten", spec := "fnReadWritten", inPlace := ["internal/abi.NoEscape"], unfollowed := true, recurses := true, apart := false, narrowed := true }
def FnReadWrittenUptoSaid : Prop := fnReadWrittenUptoRow.holds Try.pinned (OpenSpec.upto fnReadWrittenSpec)

/-- 'laws.FnCircleOf', WHERE WHAT IT READS IS OF BULK AT MOST 1048576: true; the input reads as it did. -/
def fnCircleOfUptoRow : OpenClaim := { program := "ytodeifciedjfgaa", sum := "db2508e8f64e6ab0506eb988dc84253f6cfe075f87833071896458b4d74750df", func := "loop.example/lucaspairs/laws.FnCircleOf", spec := "fnCircleOf", unfollowed := true, recurses := true, apart := false, narrowed := true }
def FnCircleOfUptoSaid : Prop := fnCircleOfUptoRow.holds Try.pinned (OpenSpec.upto fnCircleOfSpec)

/-- 'laws.FnShiftedBy', WHERE WHAT IT READS IS OF BULK AT MOST 1048576: true; the input reads as it did. -/
def fnShiftedByUptoRow : OpenClaim := { program := "ytodeifciedjfgaa", sum := "db2508e8f64e6ab0506eb988dc84253f6cfe075f87833071896458b4d74750df", func := "loop.example/lucaspairs/laws.FnShiftedBy", spec := "fnShiftedBy", unfollowed := true, recurses := true, apart := false, narrowed := true }
def FnShiftedByUptoSaid : Prop := fnShiftedByUptoRow.holds Try.pinned (OpenSpec.upto fnShiftedBySpec)

/-- 'laws.FnExactPlacesOf', WHERE WHAT IT READS IS OF BULK AT MOST 1048576: true; the input reads as it did. -/
def fnExactPlacesOfUptoRow : OpenClaim := { program := "ytodeifciedjfgaa", sum := "db2508e8f64e6ab0506eb988dc84253f6cfe075f87833071896458b4d74750df", func := "loop.example/lucaspairs/laws.FnExactPlacesOf", spec := "fnExactPlacesOf", unfollowed := true, recurses := true, apart := false, narrowed := true }
def FnExactPlacesOfUptoSaid : Prop := fnExactPlacesOfUptoRow.holds Try.pinned (OpenSpec.upto fnExactPlacesOfSpec)

/-- 'laws.FnExactWrittenOf', WHERE WHAT IT READS IS OF BULK AT MOST 1048576: true; the input reads as it did. -/
def fnExactWrittenOfUptoRow : OpenClaim := { program := "ytodeifciedjfgaa", sum := "db2508e8f64e6ab0506eb988dc84253f6cfe075f87833071896458b4d74750df", func := "loop.example/lucaspairs/laws.FnExactWrittenOf", spec := "fnExactWrittenOf", inPlace := ["internal/abi.NoEscape"], unfollowed := true, recurses := true, apart := false, narrowed := true }
def FnExactWrittenOfUptoSaid : Prop := fnExactWrittenOfUptoRow.holds Try.pinned (OpenSpec.upto fnExactWrittenOfSpec)

/-- 'laws.FnExactReadWritten', WHERE WHAT IT READS IS OF BULK AT MOST 1048576: true; the input reads as it did. -/
def fnExactReadWrittenUptoRow : OpenClaim := { program := "ytodeifciedjfgaa", sum := "db2508e8f64e6ab0506eb988dc84253f6cfe075f87833071896458b4d74750df", func := "loop.example/lucaspairs/laws.FnExactReadWritten", spec := "fnExactReadWritten", inPlace := ["internal/abi.NoEscape"], unfollowed := true, recurses := true, apart := false, narrowed := true }
def FnExactReadWrittenUptoSaid : Prop := fnExactReadWrittenUptoRow.holds Try.pinned (OpenSpec.upto fnExactReadWrittenSpec)

/-- 'laws.FnExactCircleOf', WHERE WHAT IT READS IS OF BULK AT MOST 1048576: true; the input reads as it did. -/
def fnExactCircleOfUptoRow : OpenClaim := { program := "ytodeifciedjfgaa", sum := "db2508e8f64e6ab0506eb988dc84253f6cfe075f87833071896458b4d74750df", func := "loop.example/lucaspairs/laws.FnExactCircleOf", spec := "fnExactCircleOf", unfollowed := true, recurses := true, apart := false, narrowed := true }
def FnExactCircleOfUptoSaid : Prop := fnExactCircleOfUptoRow.holds Try.pinned (OpenSpec.upto fnExactCircleOfSpec)

/-- 'laws.FnExactShiftedBy', WHERE WHAT IT READS IS OF BULK AT MOST 1048576: true; the input reads as it did. -/
def fnExactShiftedByUptoRow : OpenClaim := { program := "ytodeifciedjfgaa", sum := "db2508e8f64e6ab0506eb988dc84253f6cfe075f87833071896458b4d74750df", func := "loop.example/lucaspairs/laws.FnExactShiftedBy", spec := "fnExactShiftedBy", unfollowed := true, recurses := true, apart := false, narrowed := true }
def FnExactShiftedByUptoSaid : Prop := fnExactShiftedByUptoRow.holds Try.pinned (OpenSpec.upto fnExactShiftedBySpec)

end Rows
end Go.Proofs.Ytodeifciedjfgaa
