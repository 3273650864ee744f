/-
  No cell of these rows narrows 'for every input' (looked for: loops, veiled, ifaces, maps, wideKeys, modest, calm, conditions, laid).
  DERIVED. THE GIVEN ROWS OF THIS SEAT. 8 by the template 'for every input the law returns true; each argument reads behind the call as it read before'; 0 by the template 'total and deterministic' (their statements: YtmliglakfbeedaaTotals.lean).
  GIVEN WITH THE SEED: the statements are not yours to turn. If you find one false, say at which input.
  Laid BY PROGRAM, IN A SANDBOX (cutbox-rows.mjs): the forced cells as the released guide's own fill.sh prints them over the translation 5b49c1e672232ff5… (all of the seat's roots in one cut). By AI agents, Wed Nov 11 2026. No macro, syntax, notation, axiom, sorry.
-/
import Derived.Test.YtmliglakfbeedaaChecked
import GoSem.Claim
import GoSem.ClaimJoined
import GoSem.ClaimMapViews
import Derived.JoinedTies
import Derived.KernelRfl
namespace Go.Proofs.Ytmliglakfbeedaa
/- THE CELL 'sum', in the pinned program and in every row, IS THE sha256 OF THE DUMP (.gsa) THAT YtmliglakfbeedaaProg.lean LOADS. Nothing in Lean hashes anything: it is a label: what it is worth is what the hold of that sum in a sandbox is worth. -/
noncomputable def Try.pinned : Pinned := { name := "ytmliglakfbeedaa", sum := "5b49c1e672232ff56a903990470154029cbe01c55b52352cf334c2d8fd225012", checked := Try.checked }
namespace Rows
def none {H : Type} : Left H := { results := [], args := [] }

/-- 'laws.FnSignOf': WHATEVER THE INPUT: true; the input reads as it did. -/
def fnSignOfSpec : ChangeSpec := { name := "fnSignOf", fn := fun _ => fun
  | [d] => { results := [.lit (.bool true)], args := [d] }
  | _ => none }
def fnSignOfRow : OpenClaim := { program := "ytmliglakfbeedaa", sum := "5b49c1e672232ff56a903990470154029cbe01c55b52352cf334c2d8fd225012", func := "loop.example/lucaspairs/laws.FnSignOf", spec := "fnSignOf", inPlace := ["sync/atomic.LoadUint32", "(*internal/sync.Mutex).Lock", "internal/race.Disable", "sync/atomic.CompareAndSwapInt32", "internal/race.Enable", "internal/race.Acquire", "(*internal/sync.Mutex).lockSlow", "internal/sync.runtime_canSpin", "internal/sync.runtime_doSpin", "internal/sync.throw", "internal/sync.runtime_nanotime", "internal/sync.runtime_SemacquireMutex", "sync/atomic.AddInt32", "(*internal/sync.Mutex).Unlock", "internal/race.ReleaseMerge", "(*internal/sync.Mutex).unlockSlow", "internal/sync.fatal", "internal/sync.runtime_Semrelease", "sync/atomic.StoreUint32"], unfollowed := true, recurses := true, apart := false }
def FnSignOfSaid : Prop := fnSignOfRow.holds Try.pinned (OpenSpec.ofChange fnSignOfSpec)

/-- ITS FALSE NEIGHBOUR: 'it returns false'. Refute it at one input. -/
def fnSignOfWrong : ChangeSpec := { name := "fnSignOf", fn := fun _ => fun
  | [d] => { results := [.lit (.bool false)], args := [d] }
  | _ => none }
def FnSignOfWrongFalsely : Prop := fnSignOfRow.holds Try.pinned (OpenSpec.ofChange fnSignOfWrong)

/-- 'laws.FnPassesSecond': WHATEVER THE INPUT: true; the input reads as it did. -/
def fnPassesSecondSpec : ChangeSpec := { name := "fnPassesSecond", fn := fun _ => fun
  | [d] => { results := [.lit (.bool true)], args := [d] }
  | _ => none }
def fnPassesSecondRow : OpenClaim := { program := "ytmliglakfbeedaa", sum := "5b49c1e672232ff56a903990470154029cbe01c55b52352cf334c2d8fd225012", func := "loop.example/lucaspairs/laws.FnPassesSecond", spec := "fnPassesSecond", unfollowed := true, recurses := true, apart := false }
def FnPassesSecondSaid : Prop := fnPassesSecondRow.holds Try.pinned (OpenSpec.ofChange fnPassesSecondSpec)

/-- ITS FALSE NEIGHBOUR: 'it returns false'. Refute it at one input. -/
def fnPassesSecondWrong : ChangeSpec := { name := "fnPassesSecond", fn := fun _ => fun
  | [d] => { results := [.lit (.bool false)], args := [d] }
  | _ => none }
def FnPassesSecondWrongFalsely : Prop := fnPassesSecondRow.holds Try.pinned (OpenSpec.ofChange fnPassesSecondWrong)

/-- 'laws.FnPassesFirst': WHATEVER THE INPUT: true; the input reads as it did. -/
def fnPassesFirstSpec : ChangeSpec := { name := "fnPassesFirst", fn := fun _ => fun
  | [d] => { results := [.lit (.bool true)], args := [d] }
  | _ => none }
def fnPassesFirstRow : OpenClaim := { program := "ytmliglakfbeedaa", sum := "5b49c1e672232ff56a903990470154029cbe01c55b52352cf334c2d8fd225012", func := "loop.example/lucaspairs/laws.FnPassesFirst", spec := "fnPassesFirst", inPlace := ["sync/atomic.LoadUint32", "(*internal/sync.Mutex).Lock", "internal/race.Disable", "sync/atomic.CompareAndSwapInt32", "internal/race.Enable", "internal/race.Acquire", "(*internal/sync.Mutex).lockSlow", "internal/sync.runtime_canSpin", "internal/sync.runtime_doSpin", "internal/sync.throw", "internal/sync.runtime_nanotime", "internal/sync.runtime_SemacquireMutex", "sync/atomic.AddInt32", "(*internal/sync.Mutex).Unlock", "internal/race.ReleaseMerge", "(*internal/sync.Mutex).unlockSlow", "internal/sync.fatal", "internal/sync.runtime_Semrelease", "sync/atomic.StoreUint32"], unfollowed := true, recurses := true, apart := false }
def FnPassesFirstSaid : Prop := fnPassesFirstRow.holds Try.pinned (OpenSpec.ofChange fnPassesFirstSpec)

/-- ITS FALSE NEIGHBOUR: 'it returns false'. Refute it at one input. -/
def fnPassesFirstWrong : ChangeSpec := { name := "fnPassesFirst", fn := fun _ => fun
  | [d] => { results := [.lit (.bool false)], args := [d] }
  | _ => none }
def FnPassesFirstWrongFalsely : Prop := fnPassesFirstRow.holds Try.pinned (OpenSpec.ofChange fnPassesFirstWrong)

/-- 'laws.FnPassingFirst': WHATEVER THE INPUT: true; the input reads as it did. -/
def fnPassingFirstSpec : ChangeSpec := { name := "fnPassingFirst", fn := fun _ => fun
  | [d] => { results := [.lit (.bool true)], args := [d] }
  | _ => none }
def fnPassingFirstRow : OpenClaim := { program := "ytmliglakfbeedaa", sum := "5b49c1e672232ff56a903990470154029cbe01c55b52352cf334c2d8fd225012", func := "loop.example/lucaspairs/laws.FnPassingFirst", spec := "fnPassingFirst", unfollowed := true, recurses := true, apart := false }
def FnPassingFirstSaid : Prop := fnPassingFirstRow.holds Try.pinned (OpenSpec.ofChange fnPassingFirstSpec)

/-- ITS FALSE NEIGHBOUR: 'it returns false'. Refute it at one input. -/
def fnPassingFirstWrong : ChangeSpec := { name := "fnPassingFirst", fn := fun _ => fun
  | [d] => { results := [.lit (.bool false)], args := [d] }
  | _ => none }
def FnPassingFirstWrongFalsely : Prop := fnPassingFirstRow.holds Try.pinned (OpenSpec.ofChange fnPassingFirstWrong)

/-- 'laws.FnExactSignOf': WHATEVER THE INPUT: true; the input reads as it did. -/
def fnExactSignOfSpec : ChangeSpec := { name := "fnExactSignOf", fn := fun _ => fun
  | [d1, d2] => { results := [.lit (.bool true)], args := [d1, d2] }
  | _ => none }
def fnExactSignOfRow : OpenClaim := { program := "ytmliglakfbeedaa", sum := "5b49c1e672232ff56a903990470154029cbe01c55b52352cf334c2d8fd225012", func := "loop.example/lucaspairs/laws.FnExactSignOf", spec := "fnExactSignOf", recurses := true, apart := false }
def FnExactSignOfSaid : Prop := fnExactSignOfRow.holds Try.pinned (OpenSpec.ofChange fnExactSignOfSpec)

/-- ITS FALSE NEIGHBOUR: 'it returns false'. Refute it at one input. -/
def fnExactSignOfWrong : ChangeSpec := { name := "fnExactSignOf", fn := fun _ => fun
  | [d1, d2] => { results := [.lit (.bool false)], args := [d1, d2] }
  | _ => none }
def FnExactSignOfWrongFalsely : Prop := fnExactSignOfRow.holds Try.pinned (OpenSpec.ofChange fnExactSignOfWrong)

/-- 'laws.FnExactPassesSecond': WHATEVER THE INPUT: true; the input reads as it did. -/
def fnExactPassesSecondSpec : ChangeSpec := { name := "fnExactPassesSecond", fn := fun _ => fun
  | [d1, d2] => { results := [.lit (.bool true)], args := [d1, d2] }
  | _ => none }
def fnExactPassesSecondRow : OpenClaim := { program := "ytmliglakfbeedaa", sum := "5b49c1e672232ff56a903990470154029cbe01c55b52352cf334c2d8fd225012", func := "loop.example/lucaspairs/laws.FnExactPassesSecond", spec := "fnExactPassesSecond", unfollowed := true, recurses := true, apart := false }
def FnExactPassesSecondSaid : Prop := fnExactPassesSecondRow.holds Try.pinned (OpenSpec.ofChange fnExactPassesSecondSpec)

/-- ITS FALSE NEIGHBOUR: 'it returns false'. Refute it at one input. -/
def fnExactPassesSecondWrong : ChangeSpec := { name := "fnExactPassesSecond", fn := fun _ => fun
  | [d1, d2] => { results := [.lit (.bool false)], args := [d1, d2] }
  | _ => none }
def FnExactPassesSecondWrongFalsely : Prop := fnExactPassesSecondRow.holds Try.pinned (OpenSpec.ofChange fnExactPassesSecondWrong)

/-- 'laws.FnExactPassesFirst': WHATEVER THE INPUT: true; the input reads as it did. -/
def fnExactPassesFirstSpec : ChangeSpec := { name := "fnExactPassesFirst", fn := fun _ => fun
  | [d1, d2] => { results := [.lit (.bool true)], args := [d1, d2] }
  | _ => none }
def fnExactPassesFirstRow : OpenClaim := { program := "ytmliglakfbeedaa", sum := "5b49c1e672232ff56a903990470154029cbe01c55b52352cf334c2d8fd225012", func := "loop.example/lucaspairs/laws.FnExactPassesFirst", spec := "fnExactPassesFirst", unfollowed := true, recurses := true, apart := false }
def FnExactPassesFirstSaid : Prop := fnExactPassesFirstRow.holds Try.pinned (OpenSpec.ofChange fnExactPassesFirstSpec)

/-- ITS FALSE NEIGHBOUR: 'it returns false'. Refute it at one input. -/
def fnExactPassesFirstWrong : ChangeSpec := { name := "fnExactPassesFirst", fn := fun _ => fun
  | [d1, d2] => { results := [.lit (.bool false)], args := [d1, d2] }
  | _ => none }
def FnExactPassesFirstWrongFalsely : Prop := fnExactPassesFirstRow.holds Try.pinned (OpenSpec.ofChange fnExactPassesFirstWrong)

/-- 'laws.FnExactPassingFirst': WHATEVER THE INPUT: true; the input reads as it did. -/
def fnExactPassingFirstSpec : ChangeSpec := { name := "fnExactPassingFirst", fn := fun _ => fun
  | [d1, d2] => { results := [.lit (.bool true)], args := [d1, d2] }
  | _ => none }
def fnExactPassingFirstRow : OpenClaim := { program := "ytmliglakfbeedaa", sum := "5b49c1e672232ff56a903990470154029cbe01c55b52352cf334c2d8fd225012", func := "loop.example/lucaspairs/laws.FnExactPassingFirst", spec := "fnExactPassingFirst", unfollowed := true, recurses := true, apart := false }
def FnExactPassingFirstSaid : Prop := fnExactPassingFirstRow.holds Try.pinned (OpenSpec.ofChange fnExactPassingFirstSpec)

/-- ITS FALSE NEIGHBOUR: 'it returns false'. Refute it at one input. -/
def fnExactPassingFirstWrong : ChangeSpec := { name := "fnExactPassingFirst", fn := fun _ => fun
  | [d1, d2] => { results := [.lit (.bool false)], args := [d1, d2] }
  | _ => none }
def FnExactPassingFirstWrongFalsely : Prop := fnExactPassingFirstRow.holds Try.pinned (OpenSpec.ofChange fnExactPassingFirstWrong)

/- THE SECOND FORM. 'bulk': how many values and letters a reading holds, each counted each time it is reached (what is shared counts as often as it is met; a slice's spare places count too). A statement '..UptoSaid' is the law's where the arguments, and the package variables that the reading takes, are together of bulk at most 1048576: NARROWER than '..Said'. Prove '..Said' where nothing that the law and all that it calls make is longer than what came in: it says more and counts as full. Else prove '..UptoSaid'. A law counts once. -/
mutual
def uptoBulk {H : Type} : DataW H → Nat
  | .lit (.string bytes) => bytes.length + 1
  | .lit _ => 1
  | .nil => 1
  | .ptr d => uptoBulk d + 1
  | .slice elems spare => uptoBulkAll elems + uptoBulkAll spare + 1
  | .agg parts => uptoBulkAll parts + 1
  | .iface _ d => uptoBulk d + 1
  | .map entries => uptoBulkEntries entries + 1
  | .held _ => 1
def uptoBulkAll {H : Type} : List (DataW H) → Nat
  | [] => 0
  | d :: r => uptoBulk d + uptoBulkAll r
def uptoBulkEntries {H : Type} : List (Lit × DataW H) → Nat
  | [] => 0
  | x :: r => uptoBulkEntry x + uptoBulkEntries r
def uptoBulkEntry {H : Type} : Lit × DataW H → Nat
  | (.string bytes, d) => bytes.length + uptoBulk d + 1
  | (_, d) => uptoBulk d + 1
 end
def uptoSmall : (H : Type) → List (DataW H) → Bool := fun _ ds => decide (uptoBulkAll ds ≤ 1048576)
def OpenSpec.upto (s : _root_.Go.ChangeSpec) : _root_.Go.OpenSpec := { _root_.Go.OpenSpec.ofChange s with cond := some uptoSmall }

/-- 'laws.FnSignOf', WHERE WHAT IT READS IS OF BULK AT MOST 1048576: true; the input reads as it did. -/
def fnSignOfUptoRow : OpenClaim := { program := "ytmliglakfbeedaa", sum := "5b49c1e672232ff56a903990470154029cbe01c55b52352cf334c2d8fd225012", func := "loop.example/lucaspairs/laws.FnSignOf", spec := "fnSignOf", inPlace := ["sync/atomic.LoadUint32", "(*internal/sync.Mutex).Lock", "internal/race.Disable", "sync/atomic.CompareAndSwapInt32", "internal/race.Enable", "internal/race.Acquire", "(*internal/sync.Mutex).lockSlow", "internal/sync.runtime_canSpin", "internal/sync.runtime_doSpin", "internal/sync.throw", "internal/sync.runtime_nanotime", "internal/sync.runtime_SemacquireMutex", "sync/atomic.AddInt32", "(*internal/sync.Mutex).Unlock", "internal/race.ReleaseMerge", "(*internal/sync.Mutex).unlockSlow", "internal/sync.fatal", "internal/sync.runtime_Semrelease", "sync/atomic.StoreUint32"], unfollowed := true, recurses := true, apart := false, narrowed := true }
def FnSignOfUptoSaid : Prop := fnSignOfUptoRow.holds Try.pinned (OpenSpec.upto fnSignOfSpec)

/-- 'laws.FnPassesSecond', WHERE WHAT IT READS IS OF BULK AT MOST 1048576: true; the input reads as it did. -/
def fnPassesSecondUptoRow : OpenClaim := { program := "ytmliglakfbeedaa", sum := "5b49c1e672232ff56a903990470154029cbe01c55b52352cf334c2d8fd225012", func := "loop.example/lucaspairs/laws.FnPassesSecond", spec := "fnPassesSecond", unfollowed := true, recurses := true, apart := false, narrowed := true }
def FnPassesSecondUptoSaid : Prop := fnPassesSecondUptoRow.holds Try.pinned (OpenSpec.upto fnPassesSecondSpec)

/-- 'laws.FnPassesFirst', WHERE WHAT IT READS IS OF BULK AT MOST 1048576: true; the input reads as it did. -/
def fnPassesFirstUptoRow : OpenClaim := { program := "ytmliglakfbeedaa", sum := "5b49c1e672232ff56a903990470154029cbe01c55b52352cf334c2d8fd225012", func := "loop.example/lucaspairs/laws.FnPassesFirst", spec := "fnPassesFirst", inPlace := ["sync/atomic.LoadUint32", "(*internal/sync.Mutex).Lock", "internal/race.Disable", "sync/atomic.CompareAndSwapInt32", "internal/race.Enable", "internal/race.Acquire", "(*internal/sync.Mutex).lockSlow", "internal/sync.runtime_canSpin", "internal/sync.runtime_doSpin", "internal/sync.throw", "internal/sync.runtime_nanotime", "internal/sync.runtime_SemacquireMutex", "sync/atomic.AddInt32", "(*internal/sync.Mutex).Unlock", "internal/race.ReleaseMerge", "(*internal/sync.Mutex).unlockSlow", "internal/sync.fatal", "internal/sync.runtime_Semrelease", "sync/atomic.StoreUint32"], unfollowed := true, recurses := true, apart := false, narrowed := true }
def FnPassesFirstUptoSaid : Prop := fnPassesFirstUptoRow.holds Try.pinned (OpenSpec.upto fnPassesFirstSpec)

/-- 'laws.FnPassingFirst', WHERE WHAT IT READS IS OF BULK AT MOST 1048576: true; the input reads as it did. -/
def fnPassingFirstUptoRow : OpenClaim := { program := "ytmliglakfbeedaa", sum := "5b49c1e672232ff56a903990470154029cbe01c55b52352cf334c2d8fd225012", func := "loop.example/lucaspairs/laws.FnPassingFirst", spec := "fnPassingFirst", unfollowed := true, recurses := true, apart := false, narrowed := true }
def FnPassingFirstUptoSaid : Prop := fnPassingFirstUptoRow.holds Try.pinned (OpenSpec.upto fnPassingFirstSpec)

/-- 'laws.FnExactSignOf', WHERE WHAT IT READS IS OF BULK AT MOST 1048576: true; the input reads as it did. -/
def fnExactSignOfUptoRow : OpenClaim := { program := "ytmliglakfbeedaa", sum := "5b49c1e672232ff56a903990470154029cbe01c55b52352cf334c2d8fd225012", func := "loop.example/lucaspairs/laws.FnExactSignOf", spec := "fnExactSignOf", recurses := true, apart := false, narrowed := true }
def FnExactSignOfUptoSaid : Prop := fnExactSignOfUptoRow.holds Try.pinned (OpenSpec.upto fnExactSignOfSpec)

/-- 'laws.FnExactPassesSecond', WHERE WHAT IT READS IS OF BULK AT MOST 1048576: true; the input reads as it did. -/
def fnExactPassesSecondUptoRow : OpenClaim := { program := "ytmliglakfbeedaa", sum := "5b49c1e672232ff56a903990470154029cbe01c55b52352cf334c2d8fd225012", func := "loop.example/lucaspairs/laws.FnExactPassesSecond", spec := "fnExactPassesSecond", unfollowed := true, recurses := true, apart := false, narrowed := true }
def FnExactPassesSecondUptoSaid : Prop := fnExactPassesSecondUptoRow.holds Try.pinned (OpenSpec.upto fnExactPassesSecondSpec)

/-- 'laws.FnExactPassesFirst', WHERE WHAT IT READS IS OF BULK AT MOST 1048576: true; the input reads as it did. -/
def fnExactPassesFirstUptoRow : OpenClaim := { program := "ytmliglakfbeedaa", sum := "5b49c1e672232ff56a903990470154029cbe01c55b52352cf334c2d8fd225012", func := "loop.example/lucaspairs/laws.FnExactPassesFirst", spec := "fnExactPassesFirst", unfollowed := true, recurses := true, apart := false, narrowed := true }
def FnExactPassesFirstUptoSaid : Prop := fnExactPassesFirstUptoRow.holds Try.pinned (OpenSpec.upto fnExactPassesFirstSpec)

/-- 'laws.FnExactPassingFirst', WHERE WHAT IT READS IS OF BULK AT MOST 1048576: true; the input reads as it did. -/
def fnExactPassingFirstUptoRow : OpenClaim := { program := "ytmliglakfbeedaa", sum := "5b49c1e672232ff56a903990470154029cbe01c55b52352cf334c2d8fd225012", func := "loop.example/lucaspairs/laws.FnExactPassingFirst", spec := "fnExactPassingFirst", unfollowed := true, recurses := true, apart := false, narrowed := true }
def FnExactPassingFirstUptoSaid : Prop := fnExactPassingFirstUptoRow.holds Try.pinned (OpenSpec.upto fnExactPassingFirstSpec)

end Rows
end Go.Proofs.Ytmliglakfbeedaa
