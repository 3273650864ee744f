/-
  No cell of these rows narrows 'for every input' (looked for: loops, veiled, ifaces, maps, wideKeys, modest, calm, conditions, laid).
  DERIVED. THE GIVEN ROWS OF THIS SEAT. 8 by the template 'for every input the law returns true; each argument reads behind the call as it read before'; 0 by the template 'total and deterministic' (their statements: YtgipkcbmanjpcaaTotals.lean).
  GIVEN WITH THE SEED: the statements are not yours to turn. If you find one false, say at which input.
  Laid BY PROGRAM, IN A SANDBOX (cutbox-rows.mjs): the forced cells as the released guide's own fill.sh prints them over the translation 91f53f44a6d8591c… (all of the seat's roots in one cut). By AI agents, Wed Nov 11 2026. No macro, syntax, notation, axiom, sorry.
-/
import Derived.Test.YtgipkcbmanjpcaaChecked
import GoSem.Claim
import GoSem.ClaimJoined
import GoSem.ClaimMapViews
import Derived.JoinedTies
import Derived.KernelRfl
namespace Go.Proofs.Ytgipkcbmanjpcaa
/- THE CELL 'sum', in the pinned program and in every row, IS THE sha256 OF THE DUMP (.gsa) THAT YtgipkcbmanjpcaaProg.lean LOADS. Nothing in Lean hashes anything: it is a label: what it is worth is what the hold of that sum in a sandbox is worth. -/
noncomputable def Try.pinned : Pinned := { name := "ytgipkcbmanjpcaa", sum := "91f53f44a6d8591cae86c1d8658f32f3a1b6471127b4ba318ece4c2022b7c94d", checked := Try.checked }
namespace Rows
def none {H : Type} : Left H := { results := [], args := [] }

/-- 'laws.FnRankOf': WHATEVER THE INPUT: true; the input reads as it did. -/
def fnRankOfSpec : ChangeSpec := { name := "fnRankOf", fn := fun _ => fun
  | [d1, d2] => { results := [.lit (.bool true)], args := [d1, d2] }
  | _ => none }
def fnRankOfRow : OpenClaim := { program := "ytgipkcbmanjpcaa", sum := "91f53f44a6d8591cae86c1d8658f32f3a1b6471127b4ba318ece4c2022b7c94d", func := "loop.example/lucaspairs/laws.FnRankOf", spec := "fnRankOf", unfollowed := true, recurses := true, apart := false }
def FnRankOfSaid : Prop := fnRankOfRow.holds Try.pinned (OpenSpec.ofChange fnRankOfSpec)

/-- ITS FALSE NEIGHBOUR: 'it returns false'. Refute it at one input. -/
def fnRankOfWrong : ChangeSpec := { name := "fnRankOf", fn := fun _ => fun
  | [d1, d2] => { results := [.lit (.bool false)], args := [d1, d2] }
  | _ => none }
def FnRankOfWrongFalsely : Prop := fnRankOfRow.holds Try.pinned (OpenSpec.ofChange fnRankOfWrong)

/-- 'laws.FnDividesAt': WHATEVER THE INPUT: true; the input reads as it did. -/
def fnDividesAtSpec : ChangeSpec := { name := "fnDividesAt", fn := fun _ => fun
  | [d] => { results := [.lit (.bool true)], args := [d] }
  | _ => none }
def fnDividesAtRow : OpenClaim := { program := "ytgipkcbmanjpcaa", sum := "91f53f44a6d8591cae86c1d8658f32f3a1b6471127b4ba318ece4c2022b7c94d", func := "loop.example/lucaspairs/laws.FnDividesAt", spec := "fnDividesAt", unfollowed := true, recurses := true, apart := false }
def FnDividesAtSaid : Prop := fnDividesAtRow.holds Try.pinned (OpenSpec.ofChange fnDividesAtSpec)

/-- ITS FALSE NEIGHBOUR: 'it returns false'. Refute it at one input. -/
def fnDividesAtWrong : ChangeSpec := { name := "fnDividesAt", fn := fun _ => fun
  | [d] => { results := [.lit (.bool false)], args := [d] }
  | _ => none }
def FnDividesAtWrongFalsely : Prop := fnDividesAtRow.holds Try.pinned (OpenSpec.ofChange fnDividesAtWrong)

/-- 'laws.FnSameRanks': WHATEVER THE INPUT: true; the input reads as it did. -/
def fnSameRanksSpec : ChangeSpec := { name := "fnSameRanks", fn := fun _ => fun
  | [d] => { results := [.lit (.bool true)], args := [d] }
  | _ => none }
def fnSameRanksRow : OpenClaim := { program := "ytgipkcbmanjpcaa", sum := "91f53f44a6d8591cae86c1d8658f32f3a1b6471127b4ba318ece4c2022b7c94d", func := "loop.example/lucaspairs/laws.FnSameRanks", spec := "fnSameRanks", unfollowed := true, recurses := true, apart := false }
def FnSameRanksSaid : Prop := fnSameRanksRow.holds Try.pinned (OpenSpec.ofChange fnSameRanksSpec)

/-- ITS FALSE NEIGHBOUR: 'it returns false'. Refute it at one input. -/
def fnSameRanksWrong : ChangeSpec := { name := "fnSameRanks", fn := fun _ => fun
  | [d] => { results := [.lit (.bool false)], args := [d] }
  | _ => none }
def FnSameRanksWrongFalsely : Prop := fnSameRanksRow.holds Try.pinned (OpenSpec.ofChange fnSameRanksWrong)

/-- 'laws.FnLeastOver': WHATEVER THE INPUT: true; the input reads as it did. -/
def fnLeastOverSpec : ChangeSpec := { name := "fnLeastOver", fn := fun _ => fun
  | [d] => { results := [.lit (.bool true)], args := [d] }
  | _ => none }
def fnLeastOverRow : OpenClaim := { program := "ytgipkcbmanjpcaa", sum := "91f53f44a6d8591cae86c1d8658f32f3a1b6471127b4ba318ece4c2022b7c94d", func := "loop.example/lucaspairs/laws.FnLeastOver", spec := "fnLeastOver", apart := false }
def FnLeastOverSaid : Prop := fnLeastOverRow.holds Try.pinned (OpenSpec.ofChange fnLeastOverSpec)

/-- ITS FALSE NEIGHBOUR: 'it returns false'. Refute it at one input. -/
def fnLeastOverWrong : ChangeSpec := { name := "fnLeastOver", fn := fun _ => fun
  | [d] => { results := [.lit (.bool false)], args := [d] }
  | _ => none }
def FnLeastOverWrongFalsely : Prop := fnLeastOverRow.holds Try.pinned (OpenSpec.ofChange fnLeastOverWrong)

/-- 'laws.FnExactRankOf': WHATEVER THE INPUT: true; the input reads as it did. -/
def fnExactRankOfSpec : ChangeSpec := { name := "fnExactRankOf", fn := fun _ => fun
  | [d1, d2] => { results := [.lit (.bool true)], args := [d1, d2] }
  | _ => none }
def fnExactRankOfRow : OpenClaim := { program := "ytgipkcbmanjpcaa", sum := "91f53f44a6d8591cae86c1d8658f32f3a1b6471127b4ba318ece4c2022b7c94d", func := "loop.example/lucaspairs/laws.FnExactRankOf", spec := "fnExactRankOf", unfollowed := true, recurses := true, apart := false }
def FnExactRankOfSaid : Prop := fnExactRankOfRow.holds Try.pinned (OpenSpec.ofChange fnExactRankOfSpec)

/-- ITS FALSE NEIGHBOUR: 'it returns false'. Refute it at one input. -/
def fnExactRankOfWrong : ChangeSpec := { name := "fnExactRankOf", fn := fun _ => fun
  | [d1, d2] => { results := [.lit (.bool false)], args := [d1, d2] }
  | _ => none }
def FnExactRankOfWrongFalsely : Prop := fnExactRankOfRow.holds Try.pinned (OpenSpec.ofChange fnExactRankOfWrong)

/-- 'laws.FnExactDividesAt': WHATEVER THE INPUT: true; the input reads as it did. -/
def fnExactDividesAtSpec : ChangeSpec := { name := "fnExactDividesAt", fn := fun _ => fun
  | [d1, d2, d3] => { results := [.lit (.bool true)], args := [d1, d2, d3] }
  | _ => none }
def fnExactDividesAtRow : OpenClaim := { program := "ytgipkcbmanjpcaa", sum := "91f53f44a6d8591cae86c1d8658f32f3a1b6471127b4ba318ece4c2022b7c94d", func := "loop.example/lucaspairs/laws.FnExactDividesAt", spec := "fnExactDividesAt", unfollowed := true, recurses := true, apart := false }
def FnExactDividesAtSaid : Prop := fnExactDividesAtRow.holds Try.pinned (OpenSpec.ofChange fnExactDividesAtSpec)

/-- ITS FALSE NEIGHBOUR: 'it returns false'. Refute it at one input. -/
def fnExactDividesAtWrong : ChangeSpec := { name := "fnExactDividesAt", fn := fun _ => fun
  | [d1, d2, d3] => { results := [.lit (.bool false)], args := [d1, d2, d3] }
  | _ => none }
def FnExactDividesAtWrongFalsely : Prop := fnExactDividesAtRow.holds Try.pinned (OpenSpec.ofChange fnExactDividesAtWrong)

/-- 'laws.FnExactSameRanks': WHATEVER THE INPUT: true; the input reads as it did. -/
def fnExactSameRanksSpec : ChangeSpec := { name := "fnExactSameRanks", fn := fun _ => fun
  | [d1, d2] => { results := [.lit (.bool true)], args := [d1, d2] }
  | _ => none }
def fnExactSameRanksRow : OpenClaim := { program := "ytgipkcbmanjpcaa", sum := "91f53f44a6d8591cae86c1d8658f32f3a1b6471127b4ba318ece4c2022b7c94d", func := "loop.example/lucaspairs/laws.FnExactSameRanks", spec := "fnExactSameRanks", unfollowed := true, recurses := true, apart := false }
def FnExactSameRanksSaid : Prop := fnExactSameRanksRow.holds Try.pinned (OpenSpec.ofChange fnExactSameRanksSpec)

/-- ITS FALSE NEIGHBOUR: 'it returns false'. Refute it at one input. -/
def fnExactSameRanksWrong : ChangeSpec := { name := "fnExactSameRanks", fn := fun _ => fun
  | [d1, d2] => { results := [.lit (.bool false)], args := [d1, d2] }
  | _ => none }
def FnExactSameRanksWrongFalsely : Prop := fnExactSameRanksRow.holds Try.pinned (OpenSpec.ofChange fnExactSameRanksWrong)

/-- 'laws.FnExactLeastOver': WHATEVER THE INPUT: true; the input reads as it did. -/
def fnExactLeastOverSpec : ChangeSpec := { name := "fnExactLeastOver", fn := fun _ => fun
  | [d1, d2] => { results := [.lit (.bool true)], args := [d1, d2] }
  | _ => none }
def fnExactLeastOverRow : OpenClaim := { program := "ytgipkcbmanjpcaa", sum := "91f53f44a6d8591cae86c1d8658f32f3a1b6471127b4ba318ece4c2022b7c94d", func := "loop.example/lucaspairs/laws.FnExactLeastOver", spec := "fnExactLeastOver", apart := false }
def FnExactLeastOverSaid : Prop := fnExactLeastOverRow.holds Try.pinned (OpenSpec.ofChange fnExactLeastOverSpec)

/-- ITS FALSE NEIGHBOUR: 'it returns false'. Refute it at one input. -/
def fnExactLeastOverWrong : ChangeSpec := { name := "fnExactLeastOver", fn := fun _ => fun
  | [d1, d2] => { results := [.lit (.bool false)], args := [d1, d2] }
  | _ => none }
def FnExactLeastOverWrongFalsely : Prop := fnExactLeastOverRow.holds Try.pinned (OpenSpec.ofChange fnExactLeastOverWrong)

/- THE SECOND FORM. 'bulk': how many values and letters a reading holds, each counted each time it is reached (what is shared counts as often as it is met; a slice's spare places count too). A statement '..UptoSaid' is the law's where the arguments, and the package variables that the reading takes, are together of bulk at most 1048576: NARROWER than '..Said'. Prove '..Said' where nothing that the law and all that it calls make is longer than what came in: it says more and counts as full. Else prove '..UptoSaid'. A law counts once. -/
mutual
def uptoBulk {H : Type} : DataW H → Nat
  | .lit (.string bytes) => bytes.length + 1
  | .lit _ => 1
  | .nil => 1
  | .ptr d => uptoBulk d + 1
  | .slice elems spare => uptoBulkAll elems + uptoBulkAll spare + 1
  | .agg parts => uptoBulkAll parts + 1
  | .iface _ d => uptoBulk d + 1
  | .map entries => uptoBulkEntries entries + 1
  | .held _ => 1
def uptoBulkAll {H : Type} : List (DataW H) → Nat
  | [] => 0
  | d :: r => uptoBulk d + uptoBulkAll r
def uptoBulkEntries {H : Type} : List (Lit × DataW H) → Nat
  | [] => 0
  | x :: r => uptoBulkEntry x + uptoBulkEntries r
def uptoBulkEntry {H : Type} : Lit × DataW H → Nat
  | (.string bytes, d) => bytes.length + uptoBulk d + 1
  | (_, d) => uptoBulk d + 1
 end
def uptoSmall : (H : Type) → List (DataW H) → Bool := fun _ ds => decide (uptoBulkAll ds ≤ 1048576)
def OpenSpec.upto (s : _root_.Go.ChangeSpec) : _root_.Go.OpenSpec := { _root_.Go.OpenSpec.ofChange s with cond := some uptoSmall }

/-- 'laws.FnRankOf', WHERE WHAT IT READS IS OF BULK AT MOST 1048576: true; the input reads as it did. -/
def fnRankOfUptoRow : OpenClaim := { program := "ytgipkcbmanjpcaa", sum := "91f53f44a6d8591cae86c1d8658f32f3a1b6471127b4ba318ece4c2022b7c94d", func := "loop.example/lucaspairs/laws.FnRankOf", spec := "fnRankOf", unfollowed := true, recurses := true, apart := false, narrowed := true }
def FnRankOfUptoSaid : Prop := fnRankOfUptoRow.holds Try.pinned (OpenSpec.upto fnRankOfSpec)

/-- 'laws.FnDividesAt', WHERE WHAT IT READS IS OF BULK AT MOST 1048576: true; the input reads as it did. -/
def fnDividesAtUptoRow : OpenClaim := { program := "ytgipkcbmanjpcaa", sum := "91f53f44a6d8591cae86c1d8658f32f3a1b6471127b4ba318ece4c2022b7c94d", func := "loop.example/lucaspairs/laws.FnDividesAt", spec := "fnDividesAt", unfollowed := true, recurses := true, apart := false, narrowed := true }
def FnDividesAtUptoSaid : Prop := fnDividesAtUptoRow.holds Try.pinned (OpenSpec.upto fnDividesAtSpec)

/-- 'laws.FnSameRanks', WHERE WHAT IT READS IS OF BULK AT MOST 1048576: true; the input reads as it did. -/
def fnSameRanksUptoRow : OpenClaim := { program := "ytgipkcbmanjpcaa", sum := "91f53f44a6d8591cae86c1d8658f32f3a1b6471127b4ba318ece4c2022b7c94d", func := "loop.example/lucaspairs/laws.FnSameRanks", spec := "fnSameRanks", unfollowed := true, recurses := true, apart := false, narrowed := true }
def FnSameRanksUptoSaid : Prop := fnSameRanksUptoRow.holds Try.pinned (OpenSpec.upto fnSameRanksSpec)

/-- 'laws.FnLeastOver', WHERE WHAT IT READS IS OF BULK AT MOST 1048576: true; the input reads as it did. -/
def fnLeastOverUptoRow : OpenClaim := { program := "ytgipkcbmanjpcaa", sum := "91f53f44a6d8591cae86c1d8658f32f3a1b6471127b4ba318ece4c2022b7c94d", func := "loop.example/lucaspairs/laws.FnLeastOver", spec := "fnLeastOver", apart := false, narrowed := true }
def FnLeastOverUptoSaid : Prop := fnLeastOverUptoRow.holds Try.pinned (OpenSpec.upto fnLeastOverSpec)

/-- 'laws.FnExactRankOf', WHERE WHAT IT READS IS OF BULK AT MOST 1048576: true; the input reads as it did. -/
def fnExactRankOfUptoRow : OpenClaim := { program := "ytgipkcbmanjpcaa", sum := "91f53f44a6d8591cae86c1d8658f32f3a1b6471127b4ba318ece4c2022b7c94d", func := "loop.example/lucaspairs/laws.FnExactRankOf", spec := "fnExactRankOf", unfollowed := true, recurses := true, apart := false, narrowed := true }
def FnExactRankOfUptoSaid : Prop := fnExactRankOfUptoRow.holds Try.pinned (OpenSpec.upto fnExactRankOfSpec)

/-- 'laws.FnExactDividesAt', WHERE WHAT IT READS IS OF BULK AT MOST 1048576: true; the input reads as it did. -/
def fnExactDividesAtUptoRow : OpenClaim := { program := "ytgipkcbmanjpcaa", sum := "91f53f44a6d8591cae86c1d8658f32f3a1b6471127b4ba318ece4c2022b7c94d", func := "loop.example/lucaspairs/laws.FnExactDividesAt", spec := "fnExactDividesAt", unfollowed := true, recurses := true, apart := false, narrowed := true }
def FnExactDividesAtUptoSaid : Prop := fnExactDividesAtUptoRow.holds Try.pinned (OpenSpec.upto fnExactDividesAtSpec)

/-- 'laws.FnExactSameRanks', WHERE WHAT IT READS IS OF BULK AT MOST 1048576: true; the input reads as it did. -/
def fnExactSameRanksUptoRow : OpenClaim := { program := "ytgipkcbmanjpcaa", sum := "91f53f44a6d8591cae86c1d8658f32f3a1b6471127b4ba318ece4c2022b7c94d", func := "loop.example/lucaspairs/laws.FnExactSameRanks", spec := "fnExactSameRanks", unfollowed := true, recurses := true, apart := false, narrowed := true }
def FnExactSameRanksUptoSaid : Prop := fnExactSameRanksUptoRow.holds Try.pinned (OpenSpec.upto fnExactSameRanksSpec)

/-- 'laws.FnExactLeastOver', WHERE WHAT IT READS IS OF BULK AT MOST 1048576: true; the input reads as it did. -/
def fnExactLeastOverUptoRow : OpenClaim := { program := "ytgipkcbmanjpcaa", sum := "91f53f44a6d8591cae86c1d8658f32f3a1b6471127b4ba318ece4c2022b7c94d", func := "loop.example/lucaspairs/laws.FnExactLeastOver", spec := "fnExactLeastOver", apart := false, narrowed := true }
def FnExactLeastOverUptoSaid : Prop := fnExactLeastOverUptoRow.holds Try.pinned (OpenSpec.upto fnExactLeastOverSpec)

end Rows
end Go.Proofs.Ytgipkcbmanjpcaa
