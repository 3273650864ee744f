/-
  No cell of these rows narrows 'for every input' (looked for: loops, veiled, ifaces, maps, wideKeys, modest, calm, conditions, laid).
  DERIVED. THE GIVEN ROWS OF THIS SEAT. 10 by the template 'for every input the law returns true; each argument reads behind the call as it read before'; 0 by the template 'total and deterministic' (their statements: YthjphhgcpfbjeaaTotals.lean).
  GIVEN WITH THE SEED: the statements are not yours to turn. If you find one false, say at which input.
  Laid BY PROGRAM, IN A SANDBOX (cutbox-rows.mjs): the forced cells as the released guide's own fill.sh prints them over the translation dacaeba54bd5c088… (all of the seat's roots in one cut). By AI agents, Wed Nov 11 2026. No macro, syntax, notation, axiom, sorry.
-/
import Derived.Test.YthjphhgcpfbjeaaChecked
import GoSem.Claim
import GoSem.ClaimJoined
import GoSem.ClaimMapViews
import Derived.JoinedTies
import Derived.KernelRfl
namespace Go.Proofs.Ythjphhgcpfbjeaa
/- THE CELL 'sum', in the pinned program and in every row, IS THE sha256 OF THE DUMP (.gsa) THAT YthjphhgcpfbjeaaProg.lean LOADS. Nothing in Lean hashes anything: it is a label: what it is worth is what the hold of that sum in a sandbox is worth. -/
noncomputable def Try.pinned : Pinned := { name := "ythjphhgcpfbjeaa", sum := "dacaeba54bd5c088a2acf0c3b924a395fec23ce17dc82e377bd44b601671a50a", checked := Try.checked }
namespace Rows
def none {H : Type} : Left H := { results := [], args := [] }

/-- 'laws.FnPrimeOk': WHATEVER THE INPUT: true; the input reads as it did. -/
def fnPrimeOkSpec : ChangeSpec := { name := "fnPrimeOk", fn := fun _ => fun
  | [d] => { results := [.lit (.bool true)], args := [d] }
  | _ => none }
def fnPrimeOkRow : OpenClaim := { program := "ythjphhgcpfbjeaa", sum := "dacaeba54bd5c088a2acf0c3b924a395fec23ce17dc82e377bd44b601671a50a", func := "loop.example/lucaspairs/laws.FnPrimeOk", spec := "fnPrimeOk", apart := false }
def FnPrimeOkSaid : Prop := fnPrimeOkRow.holds Try.pinned (OpenSpec.ofChange fnPrimeOkSpec)

/-- ITS FALSE NEIGHBOUR: 'it returns false'. Refute it at one input. -/
def fnPrimeOkWrong : ChangeSpec := { name := "fnPrimeOk", fn := fun _ => fun
  | [d] => { results := [.lit (.bool false)], args := [d] }
  | _ => none }
def FnPrimeOkWrongFalsely : Prop := fnPrimeOkRow.holds Try.pinned (OpenSpec.ofChange fnPrimeOkWrong)

/-- 'laws.FnSquareSign': WHATEVER THE INPUT: true; the input reads as it did. -/
def fnSquareSignSpec : ChangeSpec := { name := "fnSquareSign", fn := fun _ => fun
  | [d] => { results := [.lit (.bool true)], args := [d] }
  | _ => none }
def fnSquareSignRow : OpenClaim := { program := "ythjphhgcpfbjeaa", sum := "dacaeba54bd5c088a2acf0c3b924a395fec23ce17dc82e377bd44b601671a50a", func := "loop.example/lucaspairs/laws.FnSquareSign", spec := "fnSquareSign", inPlace := ["sync/atomic.LoadUint32", "(*internal/sync.Mutex).Lock", "internal/race.Disable", "sync/atomic.CompareAndSwapInt32", "internal/race.Enable", "internal/race.Acquire", "(*internal/sync.Mutex).lockSlow", "internal/sync.runtime_canSpin", "internal/sync.runtime_doSpin", "internal/sync.throw", "internal/sync.runtime_nanotime", "internal/sync.runtime_SemacquireMutex", "sync/atomic.AddInt32", "(*internal/sync.Mutex).Unlock", "internal/race.ReleaseMerge", "(*internal/sync.Mutex).unlockSlow", "internal/sync.fatal", "internal/sync.runtime_Semrelease", "sync/atomic.StoreUint32"], unfollowed := true, recurses := true, apart := false }
def FnSquareSignSaid : Prop := fnSquareSignRow.holds Try.pinned (OpenSpec.ofChange fnSquareSignSpec)

/-- ITS FALSE NEIGHBOUR: 'it returns false'. Refute it at one input. -/
def fnSquareSignWrong : ChangeSpec := { name := "fnSquareSign", fn := fun _ => fun
  | [d] => { results := [.lit (.bool false)], args := [d] }
  | _ => none }
def FnSquareSignWrongFalsely : Prop := fnSquareSignRow.holds Try.pinned (OpenSpec.ofChange fnSquareSignWrong)

/-- 'laws.FnFittingOk': WHATEVER THE INPUT: true; the input reads as it did. -/
def fnFittingOkSpec : ChangeSpec := { name := "fnFittingOk", fn := fun _ => fun
  | [d] => { results := [.lit (.bool true)], args := [d] }
  | _ => none }
def fnFittingOkRow : OpenClaim := { program := "ythjphhgcpfbjeaa", sum := "dacaeba54bd5c088a2acf0c3b924a395fec23ce17dc82e377bd44b601671a50a", func := "loop.example/lucaspairs/laws.FnFittingOk", spec := "fnFittingOk", inPlace := ["sync/atomic.LoadUint32", "(*internal/sync.Mutex).Lock", "internal/race.Disable", "sync/atomic.CompareAndSwapInt32", "internal/race.Enable", "internal/race.Acquire", "(*internal/sync.Mutex).lockSlow", "internal/sync.runtime_canSpin", "internal/sync.runtime_doSpin", "internal/sync.throw", "internal/sync.runtime_nanotime", "internal/sync.runtime_SemacquireMutex", "sync/atomic.AddInt32", "(*internal/sync.Mutex).Unlock", "internal/race.ReleaseMerge", "(*internal/sync.Mutex).unlockSlow", "internal/sync.fatal", "internal/sync.runtime_Semrelease", "sync/atomic.StoreUint32"], unfollowed := true, recurses := true, apart := false }
def FnFittingOkSaid : Prop := fnFittingOkRow.holds Try.pinned (OpenSpec.ofChange fnFittingOkSpec)

/-- ITS FALSE NEIGHBOUR: 'it returns false'. Refute it at one input. -/
def fnFittingOkWrong : ChangeSpec := { name := "fnFittingOk", fn := fun _ => fun
  | [d] => { results := [.lit (.bool false)], args := [d] }
  | _ => none }
def FnFittingOkWrongFalsely : Prop := fnFittingOkRow.holds Try.pinned (OpenSpec.ofChange fnFittingOkWrong)

/-- 'laws.FnPlaceBy': WHATEVER THE INPUT: true; the input reads as it did. -/
def fnPlaceBySpec : ChangeSpec := { name := "fnPlaceBy", fn := fun _ => fun
  | [d] => { results := [.lit (.bool true)], args := [d] }
  | _ => none }
def fnPlaceByRow : OpenClaim := { program := "ythjphhgcpfbjeaa", sum := "dacaeba54bd5c088a2acf0c3b924a395fec23ce17dc82e377bd44b601671a50a", func := "loop.example/lucaspairs/laws.FnPlaceBy", spec := "fnPlaceBy", inPlace := ["sync/atomic.LoadUint32", "(*internal/sync.Mutex).Lock", "internal/race.Disable", "sync/atomic.CompareAndSwapInt32", "internal/race.Enable", "internal/race.Acquire", "(*internal/sync.Mutex).lockSlow", "internal/sync.runtime_canSpin", "internal/sync.runtime_doSpin", "internal/sync.throw", "internal/sync.runtime_nanotime", "internal/sync.runtime_SemacquireMutex", "sync/atomic.AddInt32", "(*internal/sync.Mutex).Unlock", "internal/race.ReleaseMerge", "(*internal/sync.Mutex).unlockSlow", "internal/sync.fatal", "internal/sync.runtime_Semrelease", "sync/atomic.StoreUint32"], unfollowed := true, recurses := true, apart := false }
def FnPlaceBySaid : Prop := fnPlaceByRow.holds Try.pinned (OpenSpec.ofChange fnPlaceBySpec)

/-- ITS FALSE NEIGHBOUR: 'it returns false'. Refute it at one input. -/
def fnPlaceByWrong : ChangeSpec := { name := "fnPlaceBy", fn := fun _ => fun
  | [d] => { results := [.lit (.bool false)], args := [d] }
  | _ => none }
def FnPlaceByWrongFalsely : Prop := fnPlaceByRow.holds Try.pinned (OpenSpec.ofChange fnPlaceByWrong)

/-- 'laws.FnAtPrime': WHATEVER THE INPUT: true; the input reads as it did. -/
def fnAtPrimeSpec : ChangeSpec := { name := "fnAtPrime", fn := fun _ => fun
  | [d] => { results := [.lit (.bool true)], args := [d] }
  | _ => none }
def fnAtPrimeRow : OpenClaim := { program := "ythjphhgcpfbjeaa", sum := "dacaeba54bd5c088a2acf0c3b924a395fec23ce17dc82e377bd44b601671a50a", func := "loop.example/lucaspairs/laws.FnAtPrime", spec := "fnAtPrime", inPlace := ["sync/atomic.LoadUint32", "(*internal/sync.Mutex).Lock", "internal/race.Disable", "sync/atomic.CompareAndSwapInt32", "internal/race.Enable", "internal/race.Acquire", "(*internal/sync.Mutex).lockSlow", "internal/sync.runtime_canSpin", "internal/sync.runtime_doSpin", "internal/sync.throw", "internal/sync.runtime_nanotime", "internal/sync.runtime_SemacquireMutex", "sync/atomic.AddInt32", "(*internal/sync.Mutex).Unlock", "internal/race.ReleaseMerge", "(*internal/sync.Mutex).unlockSlow", "internal/sync.fatal", "internal/sync.runtime_Semrelease", "sync/atomic.StoreUint32"], unfollowed := true, recurses := true, apart := false }
def FnAtPrimeSaid : Prop := fnAtPrimeRow.holds Try.pinned (OpenSpec.ofChange fnAtPrimeSpec)

/-- ITS FALSE NEIGHBOUR: 'it returns false'. Refute it at one input. -/
def fnAtPrimeWrong : ChangeSpec := { name := "fnAtPrime", fn := fun _ => fun
  | [d] => { results := [.lit (.bool false)], args := [d] }
  | _ => none }
def FnAtPrimeWrongFalsely : Prop := fnAtPrimeRow.holds Try.pinned (OpenSpec.ofChange fnAtPrimeWrong)

/-- 'laws.FnExactPrimeOk': WHATEVER THE INPUT: true; the input reads as it did. -/
def fnExactPrimeOkSpec : ChangeSpec := { name := "fnExactPrimeOk", fn := fun _ => fun
  | [d] => { results := [.lit (.bool true)], args := [d] }
  | _ => none }
def fnExactPrimeOkRow : OpenClaim := { program := "ythjphhgcpfbjeaa", sum := "dacaeba54bd5c088a2acf0c3b924a395fec23ce17dc82e377bd44b601671a50a", func := "loop.example/lucaspairs/laws.FnExactPrimeOk", spec := "fnExactPrimeOk", apart := false }
def FnExactPrimeOkSaid : Prop := fnExactPrimeOkRow.holds Try.pinned (OpenSpec.ofChange fnExactPrimeOkSpec)

/-- ITS FALSE NEIGHBOUR: 'it returns false'. Refute it at one input. -/
def fnExactPrimeOkWrong : ChangeSpec := { name := "fnExactPrimeOk", fn := fun _ => fun
  | [d] => { results := [.lit (.bool false)], args := [d] }
  | _ => none }
def FnExactPrimeOkWrongFalsely : Prop := fnExactPrimeOkRow.holds Try.pinned (OpenSpec.ofChange fnExactPrimeOkWrong)

/-- 'laws.FnExactSquareSign': WHATEVER THE INPUT: true; the input reads as it did. -/
def fnExactSquareSignSpec : ChangeSpec := { name := "fnExactSquareSign", fn := fun _ => fun
  | [d1, d2] => { results := [.lit (.bool true)], args := [d1, d2] }
  | _ => none }
def fnExactSquareSignRow : OpenClaim := { program := "ythjphhgcpfbjeaa", sum := "dacaeba54bd5c088a2acf0c3b924a395fec23ce17dc82e377bd44b601671a50a", func := "loop.example/lucaspairs/laws.FnExactSquareSign", spec := "fnExactSquareSign", inPlace := ["sync/atomic.LoadUint32", "(*internal/sync.Mutex).Lock", "internal/race.Disable", "sync/atomic.CompareAndSwapInt32", "internal/race.Enable", "internal/race.Acquire", "(*internal/sync.Mutex).lockSlow", "internal/sync.runtime_canSpin", "internal/sync.runtime_doSpin", "internal/sync.throw", "internal/sync.runtime_nanotime", "internal/sync.runtime_SemacquireMutex", "sync/atomic.AddInt32", "(*internal/sync.Mutex).Unlock", "internal/race.ReleaseMerge", "(*internal/sync.Mutex).unlockSlow", "internal/sync.fatal", "internal/sync.runtime_Semrelease", "sync/atomic.StoreUint32"], unfollowed := true, recurses := true, apart := false }
def FnExactSquareSignSaid : Prop := fnExactSquareSignRow.holds Try.pinned (OpenSpec.ofChange fnExactSquareSignSpec)

/-- ITS FALSE NEIGHBOUR: 'it returns false'. Refute it at one input. -/
def fnExactSquareSignWrong : ChangeSpec := { name := "fnExactSquareSign", fn := fun _ => fun
  | [d1, d2] => { results := [.lit (.bool false)], args := [d1, d2] }
  | _ => none }
def FnExactSquareSignWrongFalsely : Prop := fnExactSquareSignRow.holds Try.pinned (OpenSpec.ofChange fnExactSquareSignWrong)

/-- 'laws.FnExactFittingOk': WHATEVER THE INPUT: true; the input reads as it did. -/
def fnExactFittingOkSpec : ChangeSpec := { name := "fnExactFittingOk", fn := fun _ => fun
  | [d1, d2] => { results := [.lit (.bool true)], args := [d1, d2] }
  | _ => none }
def fnExactFittingOkRow : OpenClaim := { program := "ythjphhgcpfbjeaa", sum := "dacaeba54bd5c088a2acf0c3b924a395fec23ce17dc82e377bd44b601671a50a", func := "loop.example/lucaspairs/laws.FnExactFittingOk", spec := "fnExactFittingOk", inPlace := ["sync/atomic.LoadUint32", "(*internal/sync.Mutex).Lock", "internal/race.Disable", "sync/atomic.CompareAndSwapInt32", "internal/race.Enable", "internal/race.Acquire", "(*internal/sync.Mutex).lockSlow", "internal/sync.runtime_canSpin", "internal/sync.runtime_doSpin", "internal/sync.throw", "internal/sync.runtime_nanotime", "internal/sync.runtime_SemacquireMutex", "sync/atomic.AddInt32", "(*internal/sync.Mutex).Unlock", "internal/race.ReleaseMerge", "(*internal/sync.Mutex).unlockSlow", "internal/sync.fatal", "internal/sync.runtime_Semrelease", "sync/atomic.StoreUint32"], unfollowed := true, recurses := true, apart := false }
def FnExactFittingOkSaid : Prop := fnExactFittingOkRow.holds Try.pinned (OpenSpec.ofChange fnExactFittingOkSpec)

/-- ITS FALSE NEIGHBOUR: 'it returns false'. Refute it at one input. -/
def fnExactFittingOkWrong : ChangeSpec := { name := "fnExactFittingOk", fn := fun _ => fun
  | [d1, d2] => { results := [.lit (.bool false)], args := [d1, d2] }
  | _ => none }
def FnExactFittingOkWrongFalsely : Prop := fnExactFittingOkRow.holds Try.pinned (OpenSpec.ofChange fnExactFittingOkWrong)

/-- 'laws.FnExactPlaceBy': WHATEVER THE INPUT: true; the input reads as it did. -/
def fnExactPlaceBySpec : ChangeSpec := { name := "fnExactPlaceBy", fn := fun _ => fun
  | [d1, d2] => { results := [.lit (.bool true)], args := [d1, d2] }
  | _ => none }
def fnExactPlaceByRow : OpenClaim := { program := "ythjphhgcpfbjeaa", sum := "dacaeba54bd5c088a2acf0c3b924a395fec23ce17dc82e377bd44b601671a50a", func := "loop.example/lucaspairs/laws.FnExactPlaceBy", spec := "fnExactPlaceBy", inPlace := ["sync/atomic.LoadUint32", "(*internal/sync.Mutex).Lock", "internal/race.Disable", "sync/atomic.CompareAndSwapInt32", "internal/race.Enable", "internal/race.Acquire", "(*internal/sync.Mutex).lockSlow", "internal/sync.runtime_canSpin", "internal/sync.runtime_doSpin", "internal/sync.throw", "internal/sync.runtime_nanotime", "internal/sync.runtime_SemacquireMutex", "sync/atomic.AddInt32", "(*internal/sync.Mutex).Unlock", "internal/race.ReleaseMerge", "(*internal/sync.Mutex).unlockSlow", "internal/sync.fatal", "internal/sync.runtime_Semrelease", "sync/atomic.StoreUint32"], unfollowed := true, recurses := true, apart := false }
def FnExactPlaceBySaid : Prop := fnExactPlaceByRow.holds Try.pinned (OpenSpec.ofChange fnExactPlaceBySpec)

/-- ITS FALSE NEIGHBOUR: 'it returns false'. Refute it at one input. -/
def fnExactPlaceByWrong : ChangeSpec := { name := "fnExactPlaceBy", fn := fun _ => fun
  | [d1, d2] => { results := [.lit (.bool false)], args := [d1, d2] }
  | _ => none }
def FnExactPlaceByWrongFalsely : Prop := fnExactPlaceByRow.holds Try.pinned (OpenSpec.ofChange fnExactPlaceByWrong)

/-- 'laws.FnExactAtPrime': WHATEVER THE INPUT: true; the input reads as it did. -/
def fnExactAtPrimeSpec : ChangeSpec := { name := "fnExactAtPrime", fn := fun _ => fun
  | [d1, d2] => { results := [.lit (.bool true)], args := [d1, d2] }
  | _ => none }
def fnExactAtPrimeRow : OpenClaim := { program := "ythjphhgcpfbjeaa", sum := "dacaeba54bd5c088a2acf0c3b924a395fec23ce17dc82e377bd44b601671a50a", func := "loop.example/lucaspairs/laws.FnExactAtPrime", spec := "fnExactAtPrime", unfollowed := true, recurses := true, apart := false }
def FnExactAtPrimeSaid : Prop := fnExactAtPrimeRow.holds Try.pinned (OpenSpec.ofChange fnExactAtPrimeSpec)

/-- ITS FALSE NEIGHBOUR: 'it returns false'. Refute it at one input. -/
def fnExactAtPrimeWrong : ChangeSpec := { name := "fnExactAtPrime", fn := fun _ => fun
  | [d1, d2] => { results := [.lit (.bool false)], args := [d1, d2] }
  | _ => none }
def FnExactAtPrimeWrongFalsely : Prop := fnExactAtPrimeRow.holds Try.pinned (OpenSpec.ofChange fnExactAtPrimeWrong)

/- THE SECOND FORM. 'bulk': how many values and letters a reading holds, each counted each time it is reached (what is shared counts as often as it is met; a slice's spare places count too). A statement '..UptoSaid' is the law's where the arguments, and the package variables that the reading takes, are together of bulk at most 1048576: NARROWER than '..Said'. Prove '..Said' where nothing that the law and all that it calls make is longer than what came in: it says more and counts as full. Else prove '..UptoSaid'. A law counts once. -/
mutual
def uptoBulk {H : Type} : DataW H → Nat
  | .lit (.string bytes) => bytes.length + 1
  | .lit _ => 1
  | .nil => 1
  | .ptr d => uptoBulk d + 1
  | .slice elems spare => uptoBulkAll elems + uptoBulkAll spare + 1
  | .agg parts => uptoBulkAll parts + 1
  | .iface _ d => uptoBulk d + 1
  | .map entries => uptoBulkEntries entries + 1
  | .held _ => 1
def uptoBulkAll {H : Type} : List (DataW H) → Nat
  | [] => 0
  | d :: r => uptoBulk d + uptoBulkAll r
def uptoBulkEntries {H : Type} : List (Lit × DataW H) → Nat
  | [] => 0
  | x :: r => uptoBulkEntry x + uptoBulkEntries r
def uptoBulkEntry {H : Type} : Lit × DataW H → Nat
  | (.string bytes, d) => bytes.length + uptoBulk d + 1
  | (_, d) => uptoBulk d + 1
 end
def uptoSmall : (H : Type) → List (DataW H) → Bool := fun _ ds => decide (uptoBulkAll ds ≤ 1048576)
def OpenSpec.upto (s : _root_.Go.ChangeSpec) : _root_.Go.OpenSpec := { _root_.Go.OpenSpec.ofChange s with cond := some uptoSmall }

/-- 'laws.FnPrimeOk', WHERE WHAT IT READS IS OF BULK AT MOST 1048576: true; the input reads as it did. -/
def fnPrimeOkUptoRow : OpenClaim := { program := "ythjphhgcpfbjeaa", sum := "dacaeba54bd5c088a2acf0c3b924a395fec23ce17dc82e377bd44b601671a50a", func := "loop.example/lucaspairs/laws.FnPrimeOk", spec := "fnPrimeOk", apart := false, narrowed := true }
def FnPrimeOkUptoSaid : Prop := fnPrimeOkUptoRow.holds Try.pinned (OpenSpec.upto fnPrimeOkSpec)

/-- 'laws.FnSquareSign', WHERE WHAT IT READS IS OF BULK AT MOST 1048576: true; the input reads as it did. -/
def fnSquareSignUptoRow : OpenClaim := { program := "ythjphhgcpfbjeaa", sum := "dacaeba54bd5c088a2acf0c3b924a395fec23ce17dc82e377bd44b601671a50a", func := "loop.example/lucaspairs/laws.FnSquareSign", spec := "fnSquareSign", inPlace := ["sync/atomic.LoadUint32", "(*internal/sync.Mutex).Lock", "internal/race.Disable", "sync/atomic.CompareAndSwapInt32", "internal/race.Enable", "internal/race.Acquire", "(*internal/sync.Mutex).lockSlow", "internal/sync.runtime_canSpin", "internal/sync.runtime_doSpin", "internal/sync.throw", "internal/sync.runtime_nanotime", "internal/sync.runtime_SemacquireMutex", "sync/atomic.AddInt32", "(*internal/sync.Mutex).Unlock", "internal/race.ReleaseMerge", "(*internal/sync.Mutex).unlockSlow", "internal/sync.fatal", "internal/sync.runtime_Semrelease", "sync/atomic.StoreUint32"], unfollowed := true, recurses := true, apart := false, narrowed := true }
def FnSquareSignUptoSaid : Prop := fnSquareSignUptoRow.holds Try.pinned (OpenSpec.upto fnSquareSignSpec)

/-- 'laws.FnFittingOk', WHERE WHAT IT READS IS OF BULK AT MOST 1048576: true; the input reads as it did. -/
def fnFittingOkUptoRow : OpenClaim := { program := "ythjphhgcpfbjeaa", sum := "dacaeba54bd5c088a2acf0c3b924a395fec23ce17dc82e377bd44b601671a50a", func := "loop.example/lucaspairs/laws.FnFittingOk", spec := "fnFittingOk", inPlace := ["sync/atomic.LoadUint32", "(*internal/sync.Mutex).Lock", "internal/race.Disable", "sync/atomic.CompareAndSwapInt32", "internal/race.Enable", "internal/race.Acquire", "(*internal/sync.Mutex).lockSlow", "internal/sync.runtime_canSpin", "internal/sync.runtime_doSpin", "internal/sync.throw", "internal/sync.runtime_nanotime", "internal/sync.runtime_SemacquireMutex", "sync/atomic.AddInt32", "(*internal/sync.Mutex).Unlock", "internal/race.ReleaseMerge", "(*internal/sync.Mutex).unlockSlow", "internal/sync.fatal", "internal/sync.runtime_Semrelease", "sync/atomic.StoreUint32"], unfollowed := true, recurses := true, apart := false, narrowed := true }
def FnFittingOkUptoSaid : Prop := fnFittingOkUptoRow.holds Try.pinned (OpenSpec.upto fnFittingOkSpec)

/-- 'laws.FnPlaceBy', WHERE WHAT IT READS IS OF BULK AT MOST 1048576: true; the input reads as it did. -/
def fnPlaceByUptoRow : OpenClaim := { program := "ythjphhgcpfbjeaa", sum := "dacaeba54bd5c088a2acf0c3b924a395fec23ce17dc82e377bd44b601671a50a", func := "loop.example/lucaspairs/laws.FnPlaceBy", spec := "fnPlaceBy", inPlace := ["sync/atomic.LoadUint32", "(*internal/sync.Mutex).Lock", "internal/race.Disable", "sync/atomic.CompareAndSwapInt32", "internal/race.Enable", "internal/race.Acquire", "(*internal/sync.Mutex).lockSlow", "internal/sync.runtime_canSpin", "internal/sync.runtime_doSpin", "internal/sync.throw", "internal/sync.runtime_nanotime", "internal/sync.runtime_SemacquireMutex", "sync/atomic.AddInt32", "(*internal/sync.Mutex).Unlock", "internal/race.ReleaseMerge", "(*internal/sync.Mutex).unlockSlow", "internal/sync.fatal", "internal/sync.runtime_Semrelease", "sync/atomic.StoreUint32"], unfollowed := true, recurses := true, apart := false, narrowed := true }
def FnPlaceByUptoSaid : Prop := fnPlaceByUptoRow.holds Try.pinned (OpenSpec.upto fnPlaceBySpec)

/-- 'laws.FnAtPrime', WHERE WHAT IT READS IS OF BULK AT MOST 1048576: true; the input reads as it did. -/
def fnAtPrimeUptoRow : OpenClaim := { program := "ythjphhgcpfbjeaa", sum := "dacaeba54bd5c088a2acf0c3b924a395fec23ce17dc82e377bd44b601671a50a", func := "loop.example/lucaspairs/laws.FnAtPrime", spec := "fnAtPrime", inPlace := ["sync/atomic.LoadUint32", "(*internal/sync.Mutex).Lock", "internal/race.Disable", "sync/atomic.CompareAndSwapInt32", "internal/race.Enable", "internal/race.Acquire", "(*internal/sync.Mutex).lockSlow", "internal/sync.runtime_canSpin", "internal/sync.runtime_doSpin", "internal/sync.throw", "internal/sync.runtime_nanotime", "internal/sync.runtime_SemacquireMutex", "sync/atomic.AddInt32", "(*internal/sync.Mutex).Unlock", "internal/race.ReleaseMerge", "(*internal/sync.Mutex).unlockSlow", "internal/sync.fatal", "internal/sync.runtime_Semrelease", "sync/atomic.StoreUint32"], unfollowed := true, recurses := true, apart := false, narrowed := true }
def FnAtPrimeUptoSaid : Prop := fnAtPrimeUptoRow.holds Try.pinned (OpenSpec.upto fnAtPrimeSpec)

/-- 'laws.FnExactPrimeOk', WHERE WHAT IT READS IS OF BULK AT MOST 1048576: true; the input reads as it did. -/
def fnExactPrimeOkUptoRow : OpenClaim := { program := "ythjphhgcpfbjeaa", sum := "dacaeba54bd5c088a2acf0c3b924a395fec23ce17dc82e377bd44b601671a50a", func := "loop.example/lucaspairs/laws.FnExactPrimeOk", spec := "fnExactPrimeOk", apart := false, narrowed := true }
def FnExactPrimeOkUptoSaid : Prop := fnExactPrimeOkUptoRow.holds Try.pinned (OpenSpec.upto fnExactPrimeOkSpec)

/-- 'laws.FnExactSquareSign', WHERE WHAT IT READS IS OF BULK AT MOST 1048576: true; the input reads as it did. -/
def fnExactSquareSignUptoRow : OpenClaim := { program := "ythjphhgcpfbjeaa", sum := "dacaeba54bd5c088a2acf0c3b924a395fec23ce17dc82e377bd44b601671a50a", func := "loop.example/lucaspairs/laws.FnExactSquareSign", spec := "fnExactSquareSign", inPlace := ["sync/atomic.LoadUint32", "(*internal/sync.Mutex).Lock", "internal/race.Disable", "sync/atomic.CompareAndSwapInt32", "internal/race.Enable", "internal/race.Acquire", "(*internal/sync.Mutex).lockSlow", "internal/sync.runtime_canSpin", "internal/sync.runtime_doSpin", "internal/sync.throw", "internal/sync.runtime_nanotime", "internal/sync.runtime_SemacquireMutex", "sync/atomic.AddInt32", "(*internal/sync.Mutex).Unlock", "internal/race.ReleaseMerge", "(*internal/sync.Mutex).unlockSlow", "internal/sync.fatal", "internal/sync.runtime_Semrelease", "sync/atomic.StoreUint32"], unfollowed := true, recurses := true, apart := false, narrowed := true }
def FnExactSquareSignUptoSaid : Prop := fnExactSquareSignUptoRow.holds Try.pinned (OpenSpec.upto fnExactSquareSignSpec)

/-- 'laws.FnExactFittingOk', WHERE WHAT IT READS IS OF BULK AT MOST 1048576: true; the input reads as it did. -/
def fnExactFittingOkUptoRow : OpenClaim := { program := "ythjphhgcpfbjeaa", sum := "dacaeba54bd5c088a2acf0c3b924a395fec23ce17dc82e377bd44b601671a50a", func := "loop.example/lucaspairs/laws.FnExactFittingOk", spec := "fnExactFittingOk", inPlace := ["sync/atomic.LoadUint32", "(*internal/sync.Mutex).Lock", "internal/race.Disable", "sync/atomic.CompareAndSwapInt32", "internal/race.Enable", "internal/race.Acquire", "(*internal/sync.Mutex).lockSlow", "internal/sync.runtime_canSpin", "internal/sync.runtime_doSpin", "internal/sync.throw", "internal/sync.runtime_nanotime", "internal/sync.runtime_SemacquireMutex", "sync/atomic.AddInt32", "(*internal/sync.Mutex).Unlock", "internal/race.ReleaseMerge", "(*internal/sync.Mutex).unlockSlow", "internal/sync.fatal", "internal/sync.runtime_Semrelease", "sync/atomic.StoreUint32"], unfollowed := true, recurses := true, apart := false, narrowed := true }
def FnExactFittingOkUptoSaid : Prop := fnExactFittingOkUptoRow.holds Try.pinned (OpenSpec.upto fnExactFittingOkSpec)

/-- 'laws.FnExactPlaceBy', WHERE WHAT IT READS IS OF BULK AT MOST 1048576: true; the input reads as it did. -/
def fnExactPlaceByUptoRow : OpenClaim := { program := "ythjphhgcpfbjeaa", sum := "dacaeba54bd5c088a2acf0c3b924a395fec23ce17dc82e377bd44b601671a50a", func := "loop.example/lucaspairs/laws.FnExactPlaceBy", spec := "fnExactPlaceBy", inPlace := ["sync/atomic.LoadUint32", "(*internal/sync.Mutex).Lock", "internal/race.Disable", "sync/atomic.CompareAndSwapInt32", "internal/race.Enable", "internal/race.Acquire", "(*internal/sync.Mutex).lockSlow", "internal/sync.runtime_canSpin", "internal/sync.runtime_doSpin", "internal/sync.throw", "internal/sync.runtime_nanotime", "internal/sync.runtime_SemacquireMutex", "sync/atomic.AddInt32", "(*internal/sync.Mutex).Unlock", "internal/race.ReleaseMerge", "(*internal/sync.Mutex).unlockSlow", "internal/sync.fatal", "internal/sync.runtime_Semrelease", "sync/atomic.StoreUint32"], unfollowed := true, recurses := true, apart := false, narrowed := true }
def FnExactPlaceByUptoSaid : Prop := fnExactPlaceByUptoRow.holds Try.pinned (OpenSpec.upto fnExactPlaceBySpec)

/-- 'laws.FnExactAtPrime', WHERE WHAT IT READS IS OF BULK AT MOST 1048576: true; the input reads as it did. -/
def fnExactAtPrimeUptoRow : OpenClaim := { program := "ythjphhgcpfbjeaa", sum := "dacaeba54bd5c088a2acf0c3b924a395fec23ce17dc82e377bd44b601671a50a", func := "loop.example/lucaspairs/laws.FnExactAtPrime", spec := "fnExactAtPrime", unfollowed := true, recurses := true, apart := false, narrowed := true }
def FnExactAtPrimeUptoSaid : Prop := fnExactAtPrimeUptoRow.holds Try.pinned (OpenSpec.upto fnExactAtPrimeSpec)

end Rows
end Go.Proofs.Ythjphhgcpfbjeaa
