/-
  No cell of these rows narrows 'for every input' (looked for: loops, veiled, ifaces, maps, wideKeys, modest, calm, conditions, laid).
  DERIVED. THE GIVEN ROWS OF THIS SEAT. 10 by the template 'for every input the law returns true; each argument reads behind the call as it read before'; 0 by the template 'total and deterministic' (their statements: YtngmkepoppoomaaTotals.lean).
  GIVEN WITH THE SEED: the statements are not yours to turn. If you find one false, say at which input.
  Laid BY PROGRAM, IN A SANDBOX (cutbox-rows.mjs): the forced cells as the released guide's own fill.sh prints them over the translation 7d84ffc2aebd5b97… (all of the seat's roots in one cut). By AI agents, Wed Nov 11 2026. No macro, syntax, notation, axiom, sorry.
-/
import Derived.Test.YtngmkepoppoomaaChecked
import GoSem.Claim
import GoSem.ClaimJoined
import GoSem.ClaimMapViews
import Derived.JoinedTies
import Derived.KernelRfl
namespace Go.Proofs.Ytngmkepoppoomaa
/- THE CELL 'sum', in the pinned program and in every row, IS THE sha256 OF THE DUMP (.gsa) THAT YtngmkepoppoomaaProg.lean LOADS. Nothing in Lean hashes anything: it is a label: what it is worth is what the hold of that sum in a sandbox is worth. -/
noncomputable def Try.pinned : Pinned := { name := "ytngmkepoppoomaa", sum := "7d84ffc2aebd5b978538e846adabdd7aa9f9880f3fa52a03e593036bc73e8570", checked := Try.checked }
namespace Rows
def none {H : Type} : Left H := { results := [], args := [] }

/-- 'laws.FnPairOk': WHATEVER THE INPUT: true; the input reads as it did. -/
def fnPairOkSpec : ChangeSpec := { name := "fnPairOk", fn := fun _ => fun
  | [d] => { results := [.lit (.bool true)], args := [d] }
  | _ => none }
def fnPairOkRow : OpenClaim := { program := "ytngmkepoppoomaa", sum := "7d84ffc2aebd5b978538e846adabdd7aa9f9880f3fa52a03e593036bc73e8570", func := "loop.example/lucaspairs/laws.FnPairOk", spec := "fnPairOk", apart := false }
def FnPairOkSaid : Prop := fnPairOkRow.holds Try.pinned (OpenSpec.ofChange fnPairOkSpec)

/-- ITS FALSE NEIGHBOUR: 'it returns false'. Refute it at one input. -/
def fnPairOkWrong : ChangeSpec := { name := "fnPairOk", fn := fun _ => fun
  | [d] => { results := [.lit (.bool false)], args := [d] }
  | _ => none }
def FnPairOkWrongFalsely : Prop := fnPairOkRow.holds Try.pinned (OpenSpec.ofChange fnPairOkWrong)

/-- 'laws.FnFirstAt': WHATEVER THE INPUT: true; the input reads as it did. -/
def fnFirstAtSpec : ChangeSpec := { name := "fnFirstAt", fn := fun _ => fun
  | [d] => { results := [.lit (.bool true)], args := [d] }
  | _ => none }
def fnFirstAtRow : OpenClaim := { program := "ytngmkepoppoomaa", sum := "7d84ffc2aebd5b978538e846adabdd7aa9f9880f3fa52a03e593036bc73e8570", func := "loop.example/lucaspairs/laws.FnFirstAt", spec := "fnFirstAt", unfollowed := true, recurses := true, apart := false }
def FnFirstAtSaid : Prop := fnFirstAtRow.holds Try.pinned (OpenSpec.ofChange fnFirstAtSpec)

/-- ITS FALSE NEIGHBOUR: 'it returns false'. Refute it at one input. -/
def fnFirstAtWrong : ChangeSpec := { name := "fnFirstAt", fn := fun _ => fun
  | [d] => { results := [.lit (.bool false)], args := [d] }
  | _ => none }
def FnFirstAtWrongFalsely : Prop := fnFirstAtRow.holds Try.pinned (OpenSpec.ofChange fnFirstAtWrong)

/-- 'laws.FnSecondAt': WHATEVER THE INPUT: true; the input reads as it did. -/
def fnSecondAtSpec : ChangeSpec := { name := "fnSecondAt", fn := fun _ => fun
  | [d] => { results := [.lit (.bool true)], args := [d] }
  | _ => none }
def fnSecondAtRow : OpenClaim := { program := "ytngmkepoppoomaa", sum := "7d84ffc2aebd5b978538e846adabdd7aa9f9880f3fa52a03e593036bc73e8570", func := "loop.example/lucaspairs/laws.FnSecondAt", spec := "fnSecondAt", unfollowed := true, recurses := true, apart := false }
def FnSecondAtSaid : Prop := fnSecondAtRow.holds Try.pinned (OpenSpec.ofChange fnSecondAtSpec)

/-- ITS FALSE NEIGHBOUR: 'it returns false'. Refute it at one input. -/
def fnSecondAtWrong : ChangeSpec := { name := "fnSecondAt", fn := fun _ => fun
  | [d] => { results := [.lit (.bool false)], args := [d] }
  | _ => none }
def FnSecondAtWrongFalsely : Prop := fnSecondAtRow.holds Try.pinned (OpenSpec.ofChange fnSecondAtWrong)

/-- 'laws.FnWeightOf': WHATEVER THE INPUT: true; the input reads as it did. -/
def fnWeightOfSpec : ChangeSpec := { name := "fnWeightOf", fn := fun _ => fun
  | [d] => { results := [.lit (.bool true)], args := [d] }
  | _ => none }
def fnWeightOfRow : OpenClaim := { program := "ytngmkepoppoomaa", sum := "7d84ffc2aebd5b978538e846adabdd7aa9f9880f3fa52a03e593036bc73e8570", func := "loop.example/lucaspairs/laws.FnWeightOf", spec := "fnWeightOf", apart := false }
def FnWeightOfSaid : Prop := fnWeightOfRow.holds Try.pinned (OpenSpec.ofChange fnWeightOfSpec)

/-- ITS FALSE NEIGHBOUR: 'it returns false'. Refute it at one input. -/
def fnWeightOfWrong : ChangeSpec := { name := "fnWeightOf", fn := fun _ => fun
  | [d] => { results := [.lit (.bool false)], args := [d] }
  | _ => none }
def FnWeightOfWrongFalsely : Prop := fnWeightOfRow.holds Try.pinned (OpenSpec.ofChange fnWeightOfWrong)

/-- 'laws.FnTurnedOf': WHATEVER THE INPUT: true; the input reads as it did. -/
def fnTurnedOfSpec : ChangeSpec := { name := "fnTurnedOf", fn := fun _ => fun
  | [d] => { results := [.lit (.bool true)], args := [d] }
  | _ => none }
def fnTurnedOfRow : OpenClaim := { program := "ytngmkepoppoomaa", sum := "7d84ffc2aebd5b978538e846adabdd7aa9f9880f3fa52a03e593036bc73e8570", func := "loop.example/lucaspairs/laws.FnTurnedOf", spec := "fnTurnedOf", unfollowed := true, recurses := true, apart := false }
def FnTurnedOfSaid : Prop := fnTurnedOfRow.holds Try.pinned (OpenSpec.ofChange fnTurnedOfSpec)

/-- ITS FALSE NEIGHBOUR: 'it returns false'. Refute it at one input. -/
def fnTurnedOfWrong : ChangeSpec := { name := "fnTurnedOf", fn := fun _ => fun
  | [d] => { results := [.lit (.bool false)], args := [d] }
  | _ => none }
def FnTurnedOfWrongFalsely : Prop := fnTurnedOfRow.holds Try.pinned (OpenSpec.ofChange fnTurnedOfWrong)

/-- 'laws.FnExactPairOk': WHATEVER THE INPUT: true; the input reads as it did. -/
def fnExactPairOkSpec : ChangeSpec := { name := "fnExactPairOk", fn := fun _ => fun
  | [d] => { results := [.lit (.bool true)], args := [d] }
  | _ => none }
def fnExactPairOkRow : OpenClaim := { program := "ytngmkepoppoomaa", sum := "7d84ffc2aebd5b978538e846adabdd7aa9f9880f3fa52a03e593036bc73e8570", func := "loop.example/lucaspairs/laws.FnExactPairOk", spec := "fnExactPairOk", apart := false }
def FnExactPairOkSaid : Prop := fnExactPairOkRow.holds Try.pinned (OpenSpec.ofChange fnExactPairOkSpec)

/-- ITS FALSE NEIGHBOUR: 'it returns false'. Refute it at one input. -/
def fnExactPairOkWrong : ChangeSpec := { name := "fnExactPairOk", fn := fun _ => fun
  | [d] => { results := [.lit (.bool false)], args := [d] }
  | _ => none }
def FnExactPairOkWrongFalsely : Prop := fnExactPairOkRow.holds Try.pinned (OpenSpec.ofChange fnExactPairOkWrong)

/-- 'laws.FnExactFirstAt': WHATEVER THE INPUT: true; the input reads as it did. -/
def fnExactFirstAtSpec : ChangeSpec := { name := "fnExactFirstAt", fn := fun _ => fun
  | [d1, d2] => { results := [.lit (.bool true)], args := [d1, d2] }
  | _ => none }
def fnExactFirstAtRow : OpenClaim := { program := "ytngmkepoppoomaa", sum := "7d84ffc2aebd5b978538e846adabdd7aa9f9880f3fa52a03e593036bc73e8570", func := "loop.example/lucaspairs/laws.FnExactFirstAt", spec := "fnExactFirstAt", unfollowed := true, recurses := true, apart := false }
def FnExactFirstAtSaid : Prop := fnExactFirstAtRow.holds Try.pinned (OpenSpec.ofChange fnExactFirstAtSpec)

/-- ITS FALSE NEIGHBOUR: 'it returns false'. Refute it at one input. -/
def fnExactFirstAtWrong : ChangeSpec := { name := "fnExactFirstAt", fn := fun _ => fun
  | [d1, d2] => { results := [.lit (.bool false)], args := [d1, d2] }
  | _ => none }
def FnExactFirstAtWrongFalsely : Prop := fnExactFirstAtRow.holds Try.pinned (OpenSpec.ofChange fnExactFirstAtWrong)

/-- 'laws.FnExactSecondAt': WHATEVER THE INPUT: true; the input reads as it did. -/
def fnExactSecondAtSpec : ChangeSpec := { name := "fnExactSecondAt", fn := fun _ => fun
  | [d1, d2] => { results := [.lit (.bool true)], args := [d1, d2] }
  | _ => none }
def fnExactSecondAtRow : OpenClaim := { program := "ytngmkepoppoomaa", sum := "7d84ffc2aebd5b978538e846adabdd7aa9f9880f3fa52a03e593036bc73e8570", func := "loop.example/lucaspairs/laws.FnExactSecondAt", spec := "fnExactSecondAt", unfollowed := true, recurses := true, apart := false }
def FnExactSecondAtSaid : Prop := fnExactSecondAtRow.holds Try.pinned (OpenSpec.ofChange fnExactSecondAtSpec)

/-- ITS FALSE NEIGHBOUR: 'it returns false'. Refute it at one input. -/
def fnExactSecondAtWrong : ChangeSpec := { name := "fnExactSecondAt", fn := fun _ => fun
  | [d1, d2] => { results := [.lit (.bool false)], args := [d1, d2] }
  | _ => none }
def FnExactSecondAtWrongFalsely : Prop := fnExactSecondAtRow.holds Try.pinned (OpenSpec.ofChange fnExactSecondAtWrong)

/-- 'laws.FnExactWeightOf': WHATEVER THE INPUT: true; the input reads as it did. -/
def fnExactWeightOfSpec : ChangeSpec := { name := "fnExactWeightOf", fn := fun _ => fun
  | [d] => { results := [.lit (.bool true)], args := [d] }
  | _ => none }
def fnExactWeightOfRow : OpenClaim := { program := "ytngmkepoppoomaa", sum := "7d84ffc2aebd5b978538e846adabdd7aa9f9880f3fa52a03e593036bc73e8570", func := "loop.example/lucaspairs/laws.FnExactWeightOf", spec := "fnExactWeightOf", apart := false }
def FnExactWeightOfSaid : Prop := fnExactWeightOfRow.holds Try.pinned (OpenSpec.ofChange fnExactWeightOfSpec)

/-- ITS FALSE NEIGHBOUR: 'it returns false'. Refute it at one input. -/
def fnExactWeightOfWrong : ChangeSpec := { name := "fnExactWeightOf", fn := fun _ => fun
  | [d] => { results := [.lit (.bool false)], args := [d] }
  | _ => none }
def FnExactWeightOfWrongFalsely : Prop := fnExactWeightOfRow.holds Try.pinned (OpenSpec.ofChange fnExactWeightOfWrong)

/-- 'laws.FnExactTurnedOf': WHATEVER THE INPUT: true; the input reads as it did. -/
def fnExactTurnedOfSpec : ChangeSpec := { name := "fnExactTurnedOf", fn := fun _ => fun
  | [d] => { results := [.lit (.bool true)], args := [d] }
  | _ => none }
def fnExactTurnedOfRow : OpenClaim := { program := "ytngmkepoppoomaa", sum := "7d84ffc2aebd5b978538e846adabdd7aa9f9880f3fa52a03e593036bc73e8570", func := "loop.example/lucaspairs/laws.FnExactTurnedOf", spec := "fnExactTurnedOf", apart := false }
def FnExactTurnedOfSaid : Prop := fnExactTurnedOfRow.holds Try.pinned (OpenSpec.ofChange fnExactTurnedOfSpec)

/-- ITS FALSE NEIGHBOUR: 'it returns false'. Refute it at one input. -/
def fnExactTurnedOfWrong : ChangeSpec := { name := "fnExactTurnedOf", fn := fun _ => fun
  | [d] => { results := [.lit (.bool false)], args := [d] }
  | _ => none }
def FnExactTurnedOfWrongFalsely : Prop := fnExactTurnedOfRow.holds Try.pinned (OpenSpec.ofChange fnExactTurnedOfWrong)

/- THE SECOND FORM. 'bulk': how many values and letters a reading holds, each counted each time it is reached (what is shared counts as often as it is met; a slice's spare places count too). A statement '..UptoSaid' is the law's where the arguments, and the package variables that the reading takes, are together of bulk at most 1048576: NARROWER than '..Said'. Prove '..Said' where nothing that the law and all that it calls make is longer than what came in: it says more and counts as full. Else prove '..UptoSaid'. A law counts once. -/
mutual
def uptoBulk {H : Type} : DataW H → Nat
  | .lit (.string bytes) => bytes.length + 1
  | .lit _ => 1
  | .nil => 1
  | .ptr d => uptoBulk d + 1
  | .slice elems spare => uptoBulkAll elems + uptoBulkAll spare + 1
  | .agg parts => uptoBulkAll parts + 1
  | .iface _ d => uptoBulk d + 1
  | .map entries => uptoBulkEntries entries + 1
  | .held _ => 1
def uptoBulkAll {H : Type} : List (DataW H) → Nat
  | [] => 0
  | d :: r => uptoBulk d + uptoBulkAll r
def uptoBulkEntries {H : Type} : List (Lit × DataW H) → Nat
  | [] => 0
  | x :: r => uptoBulkEntry x + uptoBulkEntries r
def uptoBulkEntry {H : Type} : Lit × DataW H → Nat
  | (.string bytes, d) => bytes.length + uptoBulk d + 1
  | (_, d) => uptoBulk d + 1
 end
def uptoSmall : (H : Type) → List (DataW H) → Bool := fun _ ds => decide (uptoBulkAll ds ≤ 1048576)
def OpenSpec.upto (s : _root_.Go.ChangeSpec) : _root_.Go.OpenSpec := { _root_.Go.OpenSpec.ofChange s with cond := some uptoSmall }

/-- 'laws.FnPairOk', WHERE WHAT IT READS IS OF BULK AT MOST 1048576: true; the input reads as it did. -/
def fnPairOkUptoRow : OpenClaim := { program := "ytngmkepoppoomaa", sum := "7d84ffc2aebd5b978538e846adabdd7aa9f9880f3fa52a03e593036bc73e8570", func := "loop.example/lucaspairs/laws.FnPairOk", spec := "fnPairOk", apart := false, narrowed := true }
def FnPairOkUptoSaid : Prop := fnPairOkUptoRow.holds Try.pinned (OpenSpec.upto fnPairOkSpec)

/-- 'laws.FnFirstAt', WHERE WHAT IT READS IS OF BULK AT MOST 1048576: true; the input reads as it did. -/
def fnFirstAtUptoRow : OpenClaim := { program := "ytngmkepoppoomaa", sum := "7d84ffc2aebd5b978538e846adabdd7aa9f9880f3fa52a03e593036bc73e8570", func := "loop.example/lucaspairs/laws.FnFirstAt", spec := "fnFirstAt", unfollowed := true, recurses := true, apart := false, narrowed := true }
def FnFirstAtUptoSaid : Prop := fnFirstAtUptoRow.holds Try.pinned (OpenSpec.upto fnFirstAtSpec)

/-- 'laws.FnSecondAt', WHERE WHAT IT READS IS OF BULK AT MOST 1048576: true; the input reads as it did. -/
def fnSecondAtUptoRow : OpenClaim := { program := "ytngmkepoppoomaa", sum := "7d84ffc2aebd5b978538e846adabdd7aa9f9880f3fa52a03e593036bc73e8570", func := "loop.example/lucaspairs/laws.FnSecondAt", spec := "fnSecondAt", unfollowed := true, recurses := true, apart := false, narrowed := true }
def FnSecondAtUptoSaid : Prop := fnSecondAtUptoRow.holds Try.pinned (OpenSpec.upto fnSecondAtSpec)

/-- 'laws.FnWeightOf', WHERE WHAT IT READS IS OF BULK AT MOST 1048576: true; the input reads as it did. -/
def fnWeightOfUptoRow : OpenClaim := { program := "ytngmkepoppoomaa", sum := "7d84ffc2aebd5b978538e846adabdd7aa9f9880f3fa52a03e593036bc73e8570", func := "loop.example/lucaspairs/laws.FnWeightOf", spec := "fnWeightOf", apart := false, narrowed := true }
def FnWeightOfUptoSaid : Prop := fnWeightOfUptoRow.holds Try.pinned (OpenSpec.upto fnWeightOfSpec)

/-- 'laws.FnTurnedOf', WHERE WHAT IT READS IS OF BULK AT MOST 1048576: true; the input reads as it did. -/
def fnTurnedOfUptoRow : OpenClaim := { program := "ytngmkepoppoomaa", sum := "7d84ffc2aebd5b978538e846adabdd7aa9f9880f3fa52a03e593036bc73e8570", func := "loop.example/lucaspairs/laws.FnTurnedOf", spec := "fnTurnedOf", unfollowed := true, recurses := true, apart := false, narrowed := true }
def FnTurnedOfUptoSaid : Prop := fnTurnedOfUptoRow.holds Try.pinned (OpenSpec.upto fnTurnedOfSpec)

/-- 'laws.FnExactPairOk', WHERE WHAT IT READS IS OF BULK AT MOST 1048576: true; the input reads as it did. -/
def fnExactPairOkUptoRow : OpenClaim := { program := "ytngmkepoppoomaa", sum := "7d84ffc2aebd5b978538e846adabdd7aa9f9880f3fa52a03e593036bc73e8570", func := "loop.example/lucaspairs/laws.FnExactPairOk", spec := "fnExactPairOk", apart := false, narrowed := true }
def FnExactPairOkUptoSaid : Prop := fnExactPairOkUptoRow.holds Try.pinned (OpenSpec.upto fnExactPairOkSpec)

/-- 'laws.FnExactFirstAt', WHERE WHAT IT READS IS OF BULK AT MOST 1048576: true; the input reads as it did. -/
def fnExactFirstAtUptoRow : OpenClaim := { program := "ytngmkepoppoomaa", sum := "7d84ffc2aebd5b978538e846adabdd7aa9f9880f3fa52a03e593036bc73e8570", func := "loop.example/lucaspairs/laws.FnExactFirstAt", spec := "fnExactFirstAt", unfollowed := true, recurses := true, apart := false, narrowed := true }
def FnExactFirstAtUptoSaid : Prop := fnExactFirstAtUptoRow.holds Try.pinned (OpenSpec.upto fnExactFirstAtSpec)

/-- 'laws.FnExactSecondAt', WHERE WHAT IT READS IS OF BULK AT MOST 1048576: true; the input reads as it did. -/
def fnExactSecondAtUptoRow : OpenClaim := { program := "ytngmkepoppoomaa", sum := "7d84ffc2aebd5b978538e846adabdd7aa9f9880f3fa52a03e593036bc73e8570", func := "loop.example/lucaspairs/laws.FnExactSecondAt", spec := "fnExactSecondAt", unfollowed := true, recurses := true, apart := false, narrowed := true }
def FnExactSecondAtUptoSaid : Prop := fnExactSecondAtUptoRow.holds Try.pinned (OpenSpec.upto fnExactSecondAtSpec)

/-- 'laws.FnExactWeightOf', WHERE WHAT IT READS IS OF BULK AT MOST 1048576: true; the input reads as it did. -/
def fnExactWeightOfUptoRow : OpenClaim := { program := "ytngmkepoppoomaa", sum := "7d84ffc2aebd5b978538e846adabdd7aa9f9880f3fa52a03e593036bc73e8570", func := "loop.example/lucaspairs/laws.FnExactWeightOf", spec := "fnExactWeightOf", apart := false, narrowed := true }
def FnExactWeightOfUptoSaid : Prop := fnExactWeightOfUptoRow.holds Try.pinned (OpenSpec.upto fnExactWeightOfSpec)

/-- 'laws.FnExactTurnedOf', WHERE WHAT IT READS IS OF BULK AT MOST 1048576: true; the input reads as it did. -/
def fnExactTurnedOfUptoRow : OpenClaim := { program := "ytngmkepoppoomaa", sum := "7d84ffc2aebd5b978538e846adabdd7aa9f9880f3fa52a03e593036bc73e8570", func := "loop.example/lucaspairs/laws.FnExactTurnedOf", spec := "fnExactTurnedOf", apart := false, narrowed := true }
def FnExactTurnedOfUptoSaid : Prop := fnExactTurnedOfUptoRow.holds Try.pinned (OpenSpec.upto fnExactTurnedOfSpec)

end Rows
end Go.Proofs.Ytngmkepoppoomaa
