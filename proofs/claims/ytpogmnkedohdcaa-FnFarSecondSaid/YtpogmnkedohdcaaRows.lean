/-
  No cell of these rows narrows 'for every input' (looked for: loops, veiled, ifaces, maps, wideKeys, modest, calm, conditions, laid).
  DERIVED. THE GIVEN ROWS OF THIS SEAT. 7 by the template 'for every input the law returns true; each argument reads behind the call as it read before'; 0 by the template 'total and deterministic' (their statements: YtpogmnkedohdcaaTotals.lean).
  GIVEN WITH THE SEED: the statements are not yours to turn. If you find one false, say at which input.
  Laid BY PROGRAM, IN A SANDBOX (cutbox-rows.mjs): the forced cells as the released guide's own fill.sh prints them over the translation 9c74e2cb121c7f3b… (all of the seat's roots in one cut). By AI agents, Wed Nov 11 2026. No macro, syntax, notation, axiom, sorry.
-/
import Derived.Test.YtpogmnkedohdcaaChecked
import GoSem.Claim
import GoSem.ClaimJoined
import GoSem.ClaimMapViews
import Derived.JoinedTies
import Derived.KernelRfl
namespace Go.Proofs.Ytpogmnkedohdcaa
/- THE CELL 'sum', in the pinned program and in every row, IS THE sha256 OF THE DUMP (.gsa) THAT YtpogmnkedohdcaaProg.lean LOADS. Nothing in Lean hashes anything: it is a label: what it is worth is what the hold of that sum in a sandbox is worth. -/
noncomputable def Try.pinned : Pinned := { name := "ytpogmnkedohdcaa", sum := "9c74e2cb121c7f3bc6c90f8bc3a19964887f8102bcece213bb174d0458fbc206", checked := Try.checked }
namespace Rows
def none {H : Type} : Left H := { results := [], args := [] }

/-- 'laws.FnFarSecond': WHATEVER THE INPUT: true; the input reads as it did. -/
def fnFarSecondSpec : ChangeSpec := { name := "fnFarSecond", fn := fun _ => fun
  | [d] => { results := [.lit (.bool true)], args := [d] }
  | _ => none }
def fnFarSecondRow : OpenClaim := { program := "ytpogmnkedohdcaa", sum := "9c74e2cb121c7f3bc6c90f8bc3a19964887f8102bcece213bb174d0458fbc206", func := "loop.example/lucaspairs/laws.FnFarSecond", spec := "fnFarSecond", unfollowed := true, recurses := true, apart := false }
def FnFarSecondSaid : Prop := fnFarSecondRow.holds Try.pinned (OpenSpec.ofChange fnFarSecondSpec)

/-- ITS FALSE NEIGHBOUR: 'it returns false'. Refute it at one input. -/
def fnFarSecondWrong : ChangeSpec := { name := "fnFarSecond", fn := fun _ => fun
  | [d] => { results := [.lit (.bool false)], args := [d] }
  | _ => none }
def FnFarSecondWrongFalsely : Prop := fnFarSecondRow.holds Try.pinned (OpenSpec.ofChange fnFarSecondWrong)

/-- 'laws.FnPowerLeft': WHATEVER THE INPUT: true; the input reads as it did. -/
def fnPowerLeftSpec : ChangeSpec := { name := "fnPowerLeft", fn := fun _ => fun
  | [d] => { results := [.lit (.bool true)], args := [d] }
  | _ => none }
def fnPowerLeftRow : OpenClaim := { program := "ytpogmnkedohdcaa", sum := "9c74e2cb121c7f3bc6c90f8bc3a19964887f8102bcece213bb174d0458fbc206", func := "loop.example/lucaspairs/laws.FnPowerLeft", spec := "fnPowerLeft", unfollowed := true, recurses := true, apart := false }
def FnPowerLeftSaid : Prop := fnPowerLeftRow.holds Try.pinned (OpenSpec.ofChange fnPowerLeftSpec)

/-- ITS FALSE NEIGHBOUR: 'it returns false'. Refute it at one input. -/
def fnPowerLeftWrong : ChangeSpec := { name := "fnPowerLeft", fn := fun _ => fun
  | [d] => { results := [.lit (.bool false)], args := [d] }
  | _ => none }
def FnPowerLeftWrongFalsely : Prop := fnPowerLeftRow.holds Try.pinned (OpenSpec.ofChange fnPowerLeftWrong)

/-- 'laws.FnLoopsOf': WHATEVER THE INPUT: true; the input reads as it did. -/
def fnLoopsOfSpec : ChangeSpec := { name := "fnLoopsOf", fn := fun _ => fun
  | [d] => { results := [.lit (.bool true)], args := [d] }
  | _ => none }
def fnLoopsOfRow : OpenClaim := { program := "ytpogmnkedohdcaa", sum := "9c74e2cb121c7f3bc6c90f8bc3a19964887f8102bcece213bb174d0458fbc206", func := "loop.example/lucaspairs/laws.FnLoopsOf", spec := "fnLoopsOf", unfollowed := true, recurses := true, apart := false }
def FnLoopsOfSaid : Prop := fnLoopsOfRow.holds Try.pinned (OpenSpec.ofChange fnLoopsOfSpec)

/-- ITS FALSE NEIGHBOUR: 'it returns false'. Refute it at one input. -/
def fnLoopsOfWrong : ChangeSpec := { name := "fnLoopsOf", fn := fun _ => fun
  | [d] => { results := [.lit (.bool false)], args := [d] }
  | _ => none }
def FnLoopsOfWrongFalsely : Prop := fnLoopsOfRow.holds Try.pinned (OpenSpec.ofChange fnLoopsOfWrong)

/-- 'laws.FnStepOf': WHATEVER THE INPUT: true; the input reads as it did. -/
def fnStepOfSpec : ChangeSpec := { name := "fnStepOf", fn := fun _ => fun
  | [d] => { results := [.lit (.bool true)], args := [d] }
  | _ => none }
def fnStepOfRow : OpenClaim := { program := "ytpogmnkedohdcaa", sum := "9c74e2cb121c7f3bc6c90f8bc3a19964887f8102bcece213bb174d0458fbc206", func := "loop.example/lucaspairs/laws.FnStepOf", spec := "fnStepOf", unfollowed := true, recurses := true, apart := false }
def FnStepOfSaid : Prop := fnStepOfRow.holds Try.pinned (OpenSpec.ofChange fnStepOfSpec)

/-- ITS FALSE NEIGHBOUR: 'it returns false'. Refute it at one input. -/
def fnStepOfWrong : ChangeSpec := { name := "fnStepOf", fn := fun _ => fun
  | [d] => { results := [.lit (.bool false)], args := [d] }
  | _ => none }
def FnStepOfWrongFalsely : Prop := fnStepOfRow.holds Try.pinned (OpenSpec.ofChange fnStepOfWrong)

/-- 'laws.FnShiftedOf': WHATEVER THE INPUT: true; the input reads as it did. -/
def fnShiftedOfSpec : ChangeSpec := { name := "fnShiftedOf", fn := fun _ => fun
  | [d] => { results := [.lit (.bool true)], args := [d] }
  | _ => none }
def fnShiftedOfRow : OpenClaim := { program := "ytpogmnkedohdcaa", sum := "9c74e2cb121c7f3bc6c90f8bc3a19964887f8102bcece213bb174d0458fbc206", func := "loop.example/lucaspairs/laws.FnShiftedOf", spec := "fnShiftedOf", unfollowed := true, recurses := true, apart := false }
def FnShiftedOfSaid : Prop := fnShiftedOfRow.holds Try.pinned (OpenSpec.ofChange fnShiftedOfSpec)

/-- ITS FALSE NEIGHBOUR: 'it returns false'. Refute it at one input. -/
def fnShiftedOfWrong : ChangeSpec := { name := "fnShiftedOf", fn := fun _ => fun
  | [d] => { results := [.lit (.bool false)], args := [d] }
  | _ => none }
def FnShiftedOfWrongFalsely : Prop := fnShiftedOfRow.holds Try.pinned (OpenSpec.ofChange fnShiftedOfWrong)

/-- 'laws.FnExactPowerLeft': WHATEVER THE INPUT: true; the input reads as it did. -/
def fnExactPowerLeftSpec : ChangeSpec := { name := "fnExactPowerLeft", fn := fun _ => fun
  | [d1, d2, d3] => { results := [.lit (.bool true)], args := [d1, d2, d3] }
  | _ => none }
def fnExactPowerLeftRow : OpenClaim := { program := "ytpogmnkedohdcaa", sum := "9c74e2cb121c7f3bc6c90f8bc3a19964887f8102bcece213bb174d0458fbc206", func := "loop.example/lucaspairs/laws.FnExactPowerLeft", spec := "fnExactPowerLeft", unfollowed := true, recurses := true, apart := false }
def FnExactPowerLeftSaid : Prop := fnExactPowerLeftRow.holds Try.pinned (OpenSpec.ofChange fnExactPowerLeftSpec)

/-- ITS FALSE NEIGHBOUR: 'it returns false'. Refute it at one input. -/
def fnExactPowerLeftWrong : ChangeSpec := { name := "fnExactPowerLeft", fn := fun _ => fun
  | [d1, d2, d3] => { results := [.lit (.bool false)], args := [d1, d2, d3] }
  | _ => none }
def FnExactPowerLeftWrongFalsely : Prop := fnExactPowerLeftRow.holds Try.pinned (OpenSpec.ofChange fnExactPowerLeftWrong)

/-- 'laws.FnExactShiftedOf': WHATEVER THE INPUT: true; the input reads as it did. -/
def fnExactShiftedOfSpec : ChangeSpec := { name := "fnExactShiftedOf", fn := fun _ => fun
  | [d1, d2, d3] => { results := [.lit (.bool true)], args := [d1, d2, d3] }
  | _ => none }
def fnExactShiftedOfRow : OpenClaim := { program := "ytpogmnkedohdcaa", sum := "9c74e2cb121c7f3bc6c90f8bc3a19964887f8102bcece213bb174d0458fbc206", func := "loop.example/lucaspairs/laws.FnExactShiftedOf", spec := "fnExactShiftedOf", unfollowed := true, recurses := true, apart := false }
def FnExactShiftedOfSaid : Prop := fnExactShiftedOfRow.holds Try.pinned (OpenSpec.ofChange fnExactShiftedOfSpec)

/-- ITS FALSE NEIGHBOUR: 'it returns false'. Refute it at one input. -/
def fnExactShiftedOfWrong : ChangeSpec := { name := "fnExactShiftedOf", fn := fun _ => fun
  | [d1, d2, d3] => { results := [.lit (.bool false)], args := [d1, d2, d3] }
  | _ => none }
def FnExactShiftedOfWrongFalsely : Prop := fnExactShiftedOfRow.holds Try.pinned (OpenSpec.ofChange fnExactShiftedOfWrong)

/- THE SECOND FORM. 'bulk': how many values and letters a reading holds, each counted each time it is reached (what is shared counts as often as it is met; a slice's spare places count too). A statement '..UptoSaid' is the law's where the arguments, and the package variables that the reading takes, are together of bulk at most 1048576: NARROWER than '..Said'. Prove '..Said' where nothing that the law and all that it calls make is longer than what came in: it says more and counts as full. Else prove '..UptoSaid'. A law counts once. -/
mutual
def uptoBulk {H : Type} : DataW H → Nat
  | .lit (.string bytes) => bytes.length + 1
  | .lit _ => 1
  | .nil => 1
  | .ptr d => uptoBulk d + 1
  | .slice elems spare => uptoBulkAll elems + uptoBulkAll spare + 1
  | .agg parts => uptoBulkAll parts + 1
  | .iface _ d => uptoBulk d + 1
  | .map entries => uptoBulkEntries entries + 1
  | .held _ => 1
def uptoBulkAll {H : Type} : List (DataW H) → Nat
  | [] => 0
  | d :: r => uptoBulk d + uptoBulkAll r
def uptoBulkEntries {H : Type} : List (Lit × DataW H) → Nat
  | [] => 0
  | x :: r => uptoBulkEntry x + uptoBulkEntries r
def uptoBulkEntry {H : Type} : Lit × DataW H → Nat
  | (.string bytes, d) => bytes.length + uptoBulk d + 1
  | (_, d) => uptoBulk d + 1
 end
def uptoSmall : (H : Type) → List (DataW H) → Bool := fun _ ds => decide (uptoBulkAll ds ≤ 1048576)
def OpenSpec.upto (s : _root_.Go.ChangeSpec) : _root_.Go.OpenSpec := { _root_.Go.OpenSpec.ofChange s with cond := some uptoSmall }

/-- 'laws.FnFarSecond', WHERE WHAT IT READS IS OF BULK AT MOST 1048576: true; the input reads as it did. -/
def fnFarSecondUptoRow : OpenClaim := { program := "ytpogmnkedohdcaa", sum := "9c74e2cb121c7f3bc6c90f8bc3a19964887f8102bcece213bb174d0458fbc206", func := "loop.example/lucaspairs/laws.FnFarSecond", spec := "fnFarSecond", unfollowed := true, recurses := true, apart := false, narrowed := true }
def FnFarSecondUptoSaid : Prop := fnFarSecondUptoRow.holds Try.pinned (OpenSpec.upto fnFarSecondSpec)

/-- 'laws.FnPowerLeft', WHERE WHAT IT READS IS OF BULK AT MOST 1048576: true; the input reads as it did. -/
def fnPowerLeftUptoRow : OpenClaim := { program := "ytpogmnkedohdcaa", sum := "9c74e2cb121c7f3bc6c90f8bc3a19964887f8102bcece213bb174d0458fbc206", func := "loop.example/lucaspairs/laws.FnPowerLeft", spec := "fnPowerLeft", unfollowed := true, recurses := true, apart := false, narrowed := true }
def FnPowerLeftUptoSaid : Prop := fnPowerLeftUptoRow.holds Try.pinned (OpenSpec.upto fnPowerLeftSpec)

/-- 'laws.FnLoopsOf', WHERE WHAT IT READS IS OF BULK AT MOST 1048576: true; the input reads as it did. -/
def fnLoopsOfUptoRow : OpenClaim := { program := "ytpogmnkedohdcaa", sum := "9c74e2cb121c7f3bc6c90f8bc3a19964887f8102bcece213bb174d0458fbc206", func := "loop.example/lucaspairs/laws.FnLoopsOf", spec := "fnLoopsOf", unfollowed := true, recurses := true, apart := false, narrowed := true }
def FnLoopsOfUptoSaid : Prop := fnLoopsOfUptoRow.holds Try.pinned (OpenSpec.upto fnLoopsOfSpec)

/-- 'laws.FnStepOf', WHERE WHAT IT READS IS OF BULK AT MOST 1048576: true; the input reads as it did. -/
def fnStepOfUptoRow : OpenClaim := { program := "ytpogmnkedohdcaa", sum := "9c74e2cb121c7f3bc6c90f8bc3a19964887f8102bcece213bb174d0458fbc206", func := "loop.example/lucaspairs/laws.FnStepOf", spec := "fnStepOf", unfollowed := true, recurses := true, apart := false, narrowed := true }
def FnStepOfUptoSaid : Prop := fnStepOfUptoRow.holds Try.pinned (OpenSpec.upto fnStepOfSpec)

/-- 'laws.FnShiftedOf', WHERE WHAT IT READS IS OF BULK AT MOST 1048576: true; the input reads as it did. -/
def fnShiftedOfUptoRow : OpenClaim := { program := "ytpogmnkedohdcaa", sum := "9c74e2cb121c7f3bc6c90f8bc3a19964887f8102bcece213bb174d0458fbc206", func := "loop.example/lucaspairs/laws.FnShiftedOf", spec := "fnShiftedOf", unfollowed := true, recurses := true, apart := false, narrowed := true }
def FnShiftedOfUptoSaid : Prop := fnShiftedOfUptoRow.holds Try.pinned (OpenSpec.upto fnShiftedOfSpec)

/-- 'laws.FnExactPowerLeft', WHERE WHAT IT READS IS OF BULK AT MOST 1048576: true; the input reads as it did. -/
def fnExactPowerLeftUptoRow : OpenClaim := { program := "ytpogmnkedohdcaa", sum := "9c74e2cb121c7f3bc6c90f8bc3a19964887f8102bcece213bb174d0458fbc206", func := "loop.example/lucaspairs/laws.FnExactPowerLeft", spec := "fnExactPowerLeft", unfollowed := true, recurses := true, apart := false, narrowed := true }
def FnExactPowerLeftUptoSaid : Prop := fnExactPowerLeftUptoRow.holds Try.pinned (OpenSpec.upto fnExactPowerLeftSpec)

/-- 'laws.FnExactShiftedOf', WHERE WHAT IT READS IS OF BULK AT MOST 1048576: true; the input reads as it did. -/
def fnExactShiftedOfUptoRow : OpenClaim := { program := "ytpogmnkedohdcaa", sum := "9c74e2cb121c7f3bc6c90f8bc3a19964887f8102bcece213bb174d0458fbc206", func := "loop.example/lucaspairs/laws.FnExactShiftedOf", spec := "fnExactShiftedOf", unfollowed := true, recurses := true, apart := false, narrowed := true }
def FnExactShiftedOfUptoSaid : Prop := fnExactShiftedOfUptoRow.holds Try.pinned (OpenSpec.upto fnExactShiftedOfSpec)

end Rows
end Go.Proofs.Ytpogmnkedohdcaa
