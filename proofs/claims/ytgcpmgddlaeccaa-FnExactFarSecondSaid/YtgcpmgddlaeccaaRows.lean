/-
  No cell of these rows narrows 'for every input' (looked for: loops, veiled, ifaces, maps, wideKeys, modest, calm, conditions, laid).
  DERIVED. THE GIVEN ROWS OF THIS SEAT. 8 by the template 'for every input the law returns true; each argument reads behind the call as it read before'; 0 by the template 'total and deterministic' (their statements: YtgcpmgddlaeccaaTotals.lean).
  GIVEN WITH THE SEED: the statements are not yours to turn. If you find one false, say at which input.
  Laid BY PROGRAM, IN A SANDBOX (cutbox-rows.mjs): the forced cells as the released guide's own fill.sh prints them over the translation da43a390db0abfb8… (all of the seat's roots in one cut). By AI agents, Wed Nov 11 2026. No macro, syntax, notation, axiom, sorry.
-/
import Derived.Test.YtgcpmgddlaeccaaChecked
import GoSem.Claim
import GoSem.ClaimJoined
import GoSem.ClaimMapViews
import Derived.JoinedTies
import Derived.KernelRfl
namespace Go.Proofs.Ytgcpmgddlaeccaa
/- THE CELL 'sum', in the pinned program and in every row, IS THE sha256 OF THE DUMP (.gsa) THAT YtgcpmgddlaeccaaProg.lean LOADS. Nothing in Lean hashes anything: it is a label: what it is worth is what the hold of that sum in a sandbox is worth. -/
noncomputable def Try.pinned : Pinned := { name := "ytgcpmgddlaeccaa", sum := "da43a390db0abfb814f9d9549502d90c33c218181e00a8afdcc900e50acffc03", checked := Try.checked }
namespace Rows
def none {H : Type} : Left H := { results := [], args := [] }

/-- 'laws.FnFarFirst': WHATEVER THE INPUT: true; the input reads as it did. -/
def fnFarFirstSpec : ChangeSpec := { name := "fnFarFirst", fn := fun _ => fun
  | [d] => { results := [.lit (.bool true)], args := [d] }
  | _ => none }
def fnFarFirstRow : OpenClaim := { program := "ytgcpmgddlaeccaa", sum := "da43a390db0abfb814f9d9549502d90c33c218181e00a8afdcc900e50acffc03", func := "loop.example/lucaspairs/laws.FnFarFirst", spec := "fnFarFirst", unfollowed := true, recurses := true, apart := false }
def FnFarFirstSaid : Prop := fnFarFirstRow.holds Try.pinned (OpenSpec.ofChange fnFarFirstSpec)

/-- ITS FALSE NEIGHBOUR: 'it returns false'. Refute it at one input. -/
def fnFarFirstWrong : ChangeSpec := { name := "fnFarFirst", fn := fun _ => fun
  | [d] => { results := [.lit (.bool false)], args := [d] }
  | _ => none }
def FnFarFirstWrongFalsely : Prop := fnFarFirstRow.holds Try.pinned (OpenSpec.ofChange fnFarFirstWrong)

/-- 'laws.FnFarSecond': WHATEVER THE INPUT: true; the input reads as it did. -/
def fnFarSecondSpec : ChangeSpec := { name := "fnFarSecond", fn := fun _ => fun
  | [d] => { results := [.lit (.bool true)], args := [d] }
  | _ => none }
def fnFarSecondRow : OpenClaim := { program := "ytgcpmgddlaeccaa", sum := "da43a390db0abfb814f9d9549502d90c33c218181e00a8afdcc900e50acffc03", func := "loop.example/lucaspairs/laws.FnFarSecond", spec := "fnFarSecond", unfollowed := true, recurses := true, apart := false }
def FnFarSecondSaid : Prop := fnFarSecondRow.holds Try.pinned (OpenSpec.ofChange fnFarSecondSpec)

/-- ITS FALSE NEIGHBOUR: 'it returns false'. Refute it at one input. -/
def fnFarSecondWrong : ChangeSpec := { name := "fnFarSecond", fn := fun _ => fun
  | [d] => { results := [.lit (.bool false)], args := [d] }
  | _ => none }
def FnFarSecondWrongFalsely : Prop := fnFarSecondRow.holds Try.pinned (OpenSpec.ofChange fnFarSecondWrong)

/-- 'laws.FnPowerLeft': WHATEVER THE INPUT: true; the input reads as it did. -/
def fnPowerLeftSpec : ChangeSpec := { name := "fnPowerLeft", fn := fun _ => fun
  | [d] => { results := [.lit (.bool true)], args := [d] }
  | _ => none }
def fnPowerLeftRow : OpenClaim := { program := "ytgcpmgddlaeccaa", sum := "da43a390db0abfb814f9d9549502d90c33c218181e00a8afdcc900e50acffc03", func := "loop.example/lucaspairs/laws.FnPowerLeft", spec := "fnPowerLeft", unfollowed := true, recurses := true, apart := false }
def FnPowerLeftSaid : Prop := fnPowerLeftRow.holds Try.pinned (OpenSpec.ofChange fnPowerLeftSpec)

/-- ITS FALSE NEIGHBOUR: 'it returns false'. Refute it at one input. -/
def fnPowerLeftWrong : ChangeSpec := { name := "fnPowerLeft", fn := fun _ => fun
  | [d] => { results := [.lit (.bool false)], args := [d] }
  | _ => none }
def FnPowerLeftWrongFalsely : Prop := fnPowerLeftRow.holds Try.pinned (OpenSpec.ofChange fnPowerLeftWrong)

/-- 'laws.FnRowLeft': WHATEVER THE INPUT: true; the input reads as it did. -/
def fnRowLeftSpec : ChangeSpec := { name := "fnRowLeft", fn := fun _ => fun
  | [d] => { results := [.lit (.bool true)], args := [d] }
  | _ => none }
def fnRowLeftRow : OpenClaim := { program := "ytgcpmgddlaeccaa", sum := "da43a390db0abfb814f9d9549502d90c33c218181e00a8afdcc900e50acffc03", func := "loop.example/lucaspairs/laws.FnRowLeft", spec := "fnRowLeft", unfollowed := true, recurses := true, apart := false }
def FnRowLeftSaid : Prop := fnRowLeftRow.holds Try.pinned (OpenSpec.ofChange fnRowLeftSpec)

/-- ITS FALSE NEIGHBOUR: 'it returns false'. Refute it at one input. -/
def fnRowLeftWrong : ChangeSpec := { name := "fnRowLeft", fn := fun _ => fun
  | [d] => { results := [.lit (.bool false)], args := [d] }
  | _ => none }
def FnRowLeftWrongFalsely : Prop := fnRowLeftRow.holds Try.pinned (OpenSpec.ofChange fnRowLeftWrong)

/-- 'laws.FnExactFarFirst': WHATEVER THE INPUT: true; the input reads as it did. -/
def fnExactFarFirstSpec : ChangeSpec := { name := "fnExactFarFirst", fn := fun _ => fun
  | [d1, d2, d3] => { results := [.lit (.bool true)], args := [d1, d2, d3] }
  | _ => none }
def fnExactFarFirstRow : OpenClaim := { program := "ytgcpmgddlaeccaa", sum := "da43a390db0abfb814f9d9549502d90c33c218181e00a8afdcc900e50acffc03", func := "loop.example/lucaspairs/laws.FnExactFarFirst", spec := "fnExactFarFirst", unfollowed := true, recurses := true, apart := false }
def FnExactFarFirstSaid : Prop := fnExactFarFirstRow.holds Try.pinned (OpenSpec.ofChange fnExactFarFirstSpec)

/-- ITS FALSE NEIGHBOUR: 'it returns false'. Refute it at one input. -/
def fnExactFarFirstWrong : ChangeSpec := { name := "fnExactFarFirst", fn := fun _ => fun
  | [d1, d2, d3] => { results := [.lit (.bool false)], args := [d1, d2, d3] }
  | _ => none }
def FnExactFarFirstWrongFalsely : Prop := fnExactFarFirstRow.holds Try.pinned (OpenSpec.ofChange fnExactFarFirstWrong)

/-- 'laws.FnExactFarSecond': WHATEVER THE INPUT: true; the input reads as it did. -/
def fnExactFarSecondSpec : ChangeSpec := { name := "fnExactFarSecond", fn := fun _ => fun
  | [d1, d2, d3] => { results := [.lit (.bool true)], args := [d1, d2, d3] }
  | _ => none }
def fnExactFarSecondRow : OpenClaim := { program := "ytgcpmgddlaeccaa", sum := "da43a390db0abfb814f9d9549502d90c33c218181e00a8afdcc900e50acffc03", func := "loop.example/lucaspairs/laws.FnExactFarSecond", spec := "fnExactFarSecond", unfollowed := true, recurses := true, apart := false }
def FnExactFarSecondSaid : Prop := fnExactFarSecondRow.holds Try.pinned (OpenSpec.ofChange fnExactFarSecondSpec)

/-- ITS FALSE NEIGHBOUR: 'it returns false'. Refute it at one input. -/
def fnExactFarSecondWrong : ChangeSpec := { name := "fnExactFarSecond", fn := fun _ => fun
  | [d1, d2, d3] => { results := [.lit (.bool false)], args := [d1, d2, d3] }
  | _ => none }
def FnExactFarSecondWrongFalsely : Prop := fnExactFarSecondRow.holds Try.pinned (OpenSpec.ofChange fnExactFarSecondWrong)

/-- 'laws.FnExactPowerLeft': WHATEVER THE INPUT: true; the input reads as it did. -/
def fnExactPowerLeftSpec : ChangeSpec := { name := "fnExactPowerLeft", fn := fun _ => fun
  | [d1, d2, d3] => { results := [.lit (.bool true)], args := [d1, d2, d3] }
  | _ => none }
def fnExactPowerLeftRow : OpenClaim := { program := "ytgcpmgddlaeccaa", sum := "da43a390db0abfb814f9d9549502d90c33c218181e00a8afdcc900e50acffc03", func := "loop.example/lucaspairs/laws.FnExactPowerLeft", spec := "fnExactPowerLeft", unfollowed := true, recurses := true, apart := false }
def FnExactPowerLeftSaid : Prop := fnExactPowerLeftRow.holds Try.pinned (OpenSpec.ofChange fnExactPowerLeftSpec)

/-- ITS FALSE NEIGHBOUR: 'it returns false'. Refute it at one input. -/
def fnExactPowerLeftWrong : ChangeSpec := { name := "fnExactPowerLeft", fn := fun _ => fun
  | [d1, d2, d3] => { results := [.lit (.bool false)], args := [d1, d2, d3] }
  | _ => none }
def FnExactPowerLeftWrongFalsely : Prop := fnExactPowerLeftRow.holds Try.pinned (OpenSpec.ofChange fnExactPowerLeftWrong)

/-- 'laws.FnExactRowLeft': WHATEVER THE INPUT: true; the input reads as it did. -/
def fnExactRowLeftSpec : ChangeSpec := { name := "fnExactRowLeft", fn := fun _ => fun
  | [d1, d2, d3] => { results := [.lit (.bool true)], args := [d1, d2, d3] }
  | _ => none }
def fnExactRowLeftRow : OpenClaim := { program := "ytgcpmgddlaeccaa", sum := "da43a390db0abfb814f9d9549502d90c33c218181e00a8afdcc900e50acffc03", func := "loop.example/lucaspairs/laws.FnExactRowLeft", spec := "fnExactRowLeft", apart := false }
def FnExactRowLeftSaid : Prop := fnExactRowLeftRow.holds Try.pinned (OpenSpec.ofChange fnExactRowLeftSpec)

/-- ITS FALSE NEIGHBOUR: 'it returns false'. Refute it at one input. -/
def fnExactRowLeftWrong : ChangeSpec := { name := "fnExactRowLeft", fn := fun _ => fun
  | [d1, d2, d3] => { results := [.lit (.bool false)], args := [d1, d2, d3] }
  | _ => none }
def FnExactRowLeftWrongFalsely : Prop := fnExactRowLeftRow.holds Try.pinned (OpenSpec.ofChange fnExactRowLeftWrong)

/- THE SECOND FORM. 'bulk': how many values and letters a reading holds, each counted each time it is reached (what is shared counts as often as it is met; a slice's spare places count too). A statement '..UptoSaid' is the law's where the arguments, and the package variables that the reading takes, are together of bulk at most 1048576: NARROWER than '..Said'. Prove '..Said' where nothing that the law and all that it calls make is longer than what came in: it says more and counts as full. Else prove '..UptoSaid'. A law counts once. -/
mutual
def uptoBulk {H : Type} : DataW H → Nat
  | .lit (.string bytes) => bytes.length + 1
  | .lit _ => 1
  | .nil => 1
  | .ptr d => uptoBulk d + 1
  | .slice elems spare => uptoBulkAll elems + uptoBulkAll spare + 1
  | .agg parts => uptoBulkAll parts + 1
  | .iface _ d => uptoBulk d + 1
  | .map entries => uptoBulkEntries entries + 1
  | .held _ => 1
def uptoBulkAll {H : Type} : List (DataW H) → Nat
  | [] => 0
  | d :: r => uptoBulk d + uptoBulkAll r
def uptoBulkEntries {H : Type} : List (Lit × DataW H) → Nat
  | [] => 0
  | x :: r => uptoBulkEntry x + uptoBulkEntries r
def uptoBulkEntry {H : Type} : Lit × DataW H → Nat
  | (.string bytes, d) => bytes.length + uptoBulk d + 1
  | (_, d) => uptoBulk d + 1
 end
def uptoSmall : (H : Type) → List (DataW H) → Bool := fun _ ds => decide (uptoBulkAll ds ≤ 1048576)
def OpenSpec.upto (s : _root_.Go.ChangeSpec) : _root_.Go.OpenSpec := { _root_.Go.OpenSpec.ofChange s with cond := some uptoSmall }

/-- 'laws.FnFarFirst', WHERE WHAT IT READS IS OF BULK AT MOST 1048576: true; the input reads as it did. -/
def fnFarFirstUptoRow : OpenClaim := { program := "ytgcpmgddlaeccaa", sum := "da43a390db0abfb814f9d9549502d90c33c218181e00a8afdcc900e50acffc03", func := "loop.example/lucaspairs/laws.FnFarFirst", spec := "fnFarFirst", unfollowed := true, recurses := true, apart := false, narrowed := true }
def FnFarFirstUptoSaid : Prop := fnFarFirstUptoRow.holds Try.pinned (OpenSpec.upto fnFarFirstSpec)

/-- 'laws.FnFarSecond', WHERE WHAT IT READS IS OF BULK AT MOST 1048576: true; the input reads as it did. -/
def fnFarSecondUptoRow : OpenClaim := { program := "ytgcpmgddlaeccaa", sum := "da43a390db0abfb814f9d9549502d90c33c218181e00a8afdcc900e50acffc03", func := "loop.example/lucaspairs/laws.FnFarSecond", spec := "fnFarSecond", unfollowed := true, recurses := true, apart := false, narrowed := true }
def FnFarSecondUptoSaid : Prop := fnFarSecondUptoRow.holds Try.pinned (OpenSpec.upto fnFarSecondSpec)

/-- 'laws.FnPowerLeft', WHERE WHAT IT READS IS OF BULK AT MOST 1048576: true; the input reads as it did. -/
def fnPowerLeftUptoRow : OpenClaim := { program := "ytgcpmgddlaeccaa", sum := "da43a390db0abfb814f9d9549502d90c33c218181e00a8afdcc900e50acffc03", func := "loop.example/lucaspairs/laws.FnPowerLeft", spec := "fnPowerLeft", unfollowed := true, recurses := true, apart := false, narrowed := true }
def FnPowerLeftUptoSaid : Prop := fnPowerLeftUptoRow.holds Try.pinned (OpenSpec.upto fnPowerLeftSpec)

/-- 'laws.FnRowLeft', WHERE WHAT IT READS IS OF BULK AT MOST 1048576: true; the input reads as it did. -/
def fnRowLeftUptoRow : OpenClaim := { program := "ytgcpmgddlaeccaa", sum := "da43a390db0abfb814f9d9549502d90c33c218181e00a8afdcc900e50acffc03", func := "loop.example/lucaspairs/laws.FnRowLeft", spec := "fnRowLeft", unfollowed := true, recurses := true, apart := false, narrowed := true }
def FnRowLeftUptoSaid : Prop := fnRowLeftUptoRow.holds Try.pinned (OpenSpec.upto fnRowLeftSpec)

/-- 'laws.FnExactFarFirst', WHERE WHAT IT READS IS OF BULK AT MOST 1048576: true; the input reads as it did. -/
def fnExactFarFirstUptoRow : OpenClaim := { program := "ytgcpmgddlaeccaa", sum := "da43a390db0abfb814f9d9549502d90c33c218181e00a8afdcc900e50acffc03", func := "loop.example/lucaspairs/laws.FnExactFarFirst", spec := "fnExactFarFirst", unfollowed := true, recurses := true, apart := false, narrowed := true }
def FnExactFarFirstUptoSaid : Prop := fnExactFarFirstUptoRow.holds Try.pinned (OpenSpec.upto fnExactFarFirstSpec)

/-- 'laws.FnExactFarSecond', WHERE WHAT IT READS IS OF BULK AT MOST 1048576: true; the input reads as it did. -/
def fnExactFarSecondUptoRow : OpenClaim := { program := "ytgcpmgddlaeccaa", sum := "da43a390db0abfb814f9d9549502d90c33c218181e00a8afdcc900e50acffc03", func := "loop.example/lucaspairs/laws.FnExactFarSecond", spec := "fnExactFarSecond", unfollowed := true, recurses := true, apart := false, narrowed := true }
def FnExactFarSecondUptoSaid : Prop := fnExactFarSecondUptoRow.holds Try.pinned (OpenSpec.upto fnExactFarSecondSpec)

/-- 'laws.FnExactPowerLeft', WHERE WHAT IT READS IS OF BULK AT MOST 1048576: true; the input reads as it did. -/
def fnExactPowerLeftUptoRow : OpenClaim := { program := "ytgcpmgddlaeccaa", sum := "da43a390db0abfb814f9d9549502d90c33c218181e00a8afdcc900e50acffc03", func := "loop.example/lucaspairs/laws.FnExactPowerLeft", spec := "fnExactPowerLeft", unfollowed := true, recurses := true, apart := false, narrowed := true }
def FnExactPowerLeftUptoSaid : Prop := fnExactPowerLeftUptoRow.holds Try.pinned (OpenSpec.upto fnExactPowerLeftSpec)

/-- 'laws.FnExactRowLeft', WHERE WHAT IT READS IS OF BULK AT MOST 1048576: true; the input reads as it did. -/
def fnExactRowLeftUptoRow : OpenClaim := { program := "ytgcpmgddlaeccaa", sum := "da43a390db0abfb814f9d9549502d90c33c218181e00a8afdcc900e50acffc03", func := "loop.example/lucaspairs/laws.FnExactRowLeft", spec := "fnExactRowLeft", apart := false, narrowed := true }
def FnExactRowLeftUptoSaid : Prop := fnExactRowLeftUptoRow.holds Try.pinned (OpenSpec.upto fnExactRowLeftSpec)

end Rows
end Go.Proofs.Ytgcpmgddlaeccaa
