/-
  No cell of these rows narrows 'for every input' (looked for: loops, veiled, ifaces, maps, wideKeys, modest, calm, conditions, laid).
  DERIVED. THE GIVEN ROWS OF THIS SEAT. 6 by the template 'for every input the law returns true; each argument reads behind the call as it read before'; 0 by the template 'total and deterministic' (their statements: YtiibafphgjlffapTotals.lean).
  GIVEN WITH THE SEED: the statements are not yours to turn. If you find one false, say at which input.
  Laid BY PROGRAM, IN A SANDBOX (cutbox-rows.mjs): the forced cells as the released guide's own fill.sh prints them over the translation fd5c941c8ca4e258… (all of the seat's roots in one cut). By AI agents, Wed Nov 11 2026. No macro, syntax, notation, axiom, sorry.
-/
import Derived.Test.YtiibafphgjlffapChecked
import GoSem.Claim
import GoSem.ClaimJoined
import GoSem.ClaimMapViews
import Derived.JoinedTies
import Derived.KernelRfl
namespace Go.Proofs.Ytiibafphgjlffap
/- THE CELL 'sum', in the pinned program and in every row, IS THE sha256 OF THE DUMP (.gsa) THAT YtiibafphgjlffapProg.lean LOADS. Nothing in Lean hashes anything: it is a label: what it is worth is what the hold of that sum in a sandbox is worth. -/
noncomputable def Try.pinned : Pinned := { name := "ytiibafphgjlffap", sum := "fd5c941c8ca4e258594ec0dd463e4bb5b15acdbc497f00a8207a658f9fc42095", checked := Try.checked }
namespace Rows
def none {H : Type} : Left H := { results := [], args := [] }

/-- 'laws.FnExactRenoTimeout': WHATEVER THE INPUT: true; the input reads as it did. -/
def fnExactRenoTimeoutSpec : ChangeSpec := { name := "fnExactRenoTimeout", fn := fun _ => fun
  | [d] => { results := [.lit (.bool true)], args := [d] }
  | _ => none }
def fnExactRenoTimeoutRow : OpenClaim := { program := "ytiibafphgjlffap", sum := "fd5c941c8ca4e258594ec0dd463e4bb5b15acdbc497f00a8207a658f9fc42095", func := "loop.example/g00147/laws.FnExactRenoTimeout", spec := "fnExactRenoTimeout", unfollowed := true, recurses := true, apart := false }
def FnExactRenoTimeoutSaid : Prop := fnExactRenoTimeoutRow.holds Try.pinned (OpenSpec.ofChange fnExactRenoTimeoutSpec)

/-- ITS FALSE NEIGHBOUR: 'it returns false'. Refute it at one input. -/
def fnExactRenoTimeoutWrong : ChangeSpec := { name := "fnExactRenoTimeout", fn := fun _ => fun
  | [d] => { results := [.lit (.bool false)], args := [d] }
  | _ => none }
def FnExactRenoTimeoutWrongFalsely : Prop := fnExactRenoTimeoutRow.holds Try.pinned (OpenSpec.ofChange fnExactRenoTimeoutWrong)

/-- 'laws.FnExactCubicTime': WHATEVER THE INPUT: true; the input reads as it did. -/
def fnExactCubicTimeSpec : ChangeSpec := { name := "fnExactCubicTime", fn := fun _ => fun
  | [d1, d2] => { results := [.lit (.bool true)], args := [d1, d2] }
  | _ => none }
def fnExactCubicTimeRow : OpenClaim := { program := "ytiibafphgjlffap", sum := "fd5c941c8ca4e258594ec0dd463e4bb5b15acdbc497f00a8207a658f9fc42095", func := "loop.example/g00147/laws.FnExactCubicTime", spec := "fnExactCubicTime", inPlace := ["(*internal/sync.Mutex).Lock", "internal/race.Disable", "sync/atomic.CompareAndSwapInt32", "internal/race.Enable", "internal/race.Acquire", "(*internal/sync.Mutex).lockSlow", "internal/sync.runtime_canSpin", "internal/sync.runtime_doSpin", "internal/sync.throw", "internal/sync.runtime_nanotime", "internal/sync.runtime_SemacquireMutex", "sync/atomic.AddInt32", "(*internal/sync.Mutex).Unlock", "internal/race.ReleaseMerge", "(*internal/sync.Mutex).unlockSlow", "internal/sync.fatal", "internal/sync.runtime_Semrelease"], apart := false }
def FnExactCubicTimeSaid : Prop := fnExactCubicTimeRow.holds Try.pinned (OpenSpec.ofChange fnExactCubicTimeSpec)

/-- ITS FALSE NEIGHBOUR: 'it returns false'. Refute it at one input. -/
def fnExactCubicTimeWrong : ChangeSpec := { name := "fnExactCubicTime", fn := fun _ => fun
  | [d1, d2] => { results := [.lit (.bool false)], args := [d1, d2] }
  | _ => none }
def FnExactCubicTimeWrongFalsely : Prop := fnExactCubicTimeRow.holds Try.pinned (OpenSpec.ofChange fnExactCubicTimeWrong)

/-- 'laws.FnExactCubicAt': WHATEVER THE INPUT: true; the input reads as it did. -/
def fnExactCubicAtSpec : ChangeSpec := { name := "fnExactCubicAt", fn := fun _ => fun
  | [d1, d2, d3] => { results := [.lit (.bool true)], args := [d1, d2, d3] }
  | _ => none }
def fnExactCubicAtRow : OpenClaim := { program := "ytiibafphgjlffap", sum := "fd5c941c8ca4e258594ec0dd463e4bb5b15acdbc497f00a8207a658f9fc42095", func := "loop.example/g00147/laws.FnExactCubicAt", spec := "fnExactCubicAt", inPlace := ["(*internal/sync.Mutex).Lock", "internal/race.Disable", "sync/atomic.CompareAndSwapInt32", "internal/race.Enable", "internal/race.Acquire", "(*internal/sync.Mutex).lockSlow", "internal/sync.runtime_canSpin", "internal/sync.runtime_doSpin", "internal/sync.throw", "internal/sync.runtime_nanotime", "internal/sync.runtime_SemacquireMutex", "sync/atomic.AddInt32", "(*internal/sync.Mutex).Unlock", "internal/race.ReleaseMerge", "(*internal/sync.Mutex).unlockSlow", "internal/sync.fatal", "internal/sync.runtime_Semrelease"], apart := false }
def FnExactCubicAtSaid : Prop := fnExactCubicAtRow.holds Try.pinned (OpenSpec.ofChange fnExactCubicAtSpec)

/-- ITS FALSE NEIGHBOUR: 'it returns false'. Refute it at one input. -/
def fnExactCubicAtWrong : ChangeSpec := { name := "fnExactCubicAt", fn := fun _ => fun
  | [d1, d2, d3] => { results := [.lit (.bool false)], args := [d1, d2, d3] }
  | _ => none }
def FnExactCubicAtWrongFalsely : Prop := fnExactCubicAtRow.holds Try.pinned (OpenSpec.ofChange fnExactCubicAtWrong)

/-- 'laws.FnExactCubicAck': WHATEVER THE INPUT: true; the input reads as it did. -/
def fnExactCubicAckSpec : ChangeSpec := { name := "fnExactCubicAck", fn := fun _ => fun
  | [d1, d2, d3] => { results := [.lit (.bool true)], args := [d1, d2, d3] }
  | _ => none }
def fnExactCubicAckRow : OpenClaim := { program := "ytiibafphgjlffap", sum := "fd5c941c8ca4e258594ec0dd463e4bb5b15acdbc497f00a8207a658f9fc42095", func := "loop.example/g00147/laws.FnExactCubicAck", spec := "fnExactCubicAck", unfollowed := true, recurses := true, apart := false }
def FnExactCubicAckSaid : Prop := fnExactCubicAckRow.holds Try.pinned (OpenSpec.ofChange fnExactCubicAckSpec)

/-- ITS FALSE NEIGHBOUR: 'it returns false'. Refute it at one input. -/
def fnExactCubicAckWrong : ChangeSpec := { name := "fnExactCubicAck", fn := fun _ => fun
  | [d1, d2, d3] => { results := [.lit (.bool false)], args := [d1, d2, d3] }
  | _ => none }
def FnExactCubicAckWrongFalsely : Prop := fnExactCubicAckRow.holds Try.pinned (OpenSpec.ofChange fnExactCubicAckWrong)

/-- 'laws.FnExactCubicLoss': WHATEVER THE INPUT: true; the input reads as it did. -/
def fnExactCubicLossSpec : ChangeSpec := { name := "fnExactCubicLoss", fn := fun _ => fun
  | [d] => { results := [.lit (.bool true)], args := [d] }
  | _ => none }
def fnExactCubicLossRow : OpenClaim := { program := "ytiibafphgjlffap", sum := "fd5c941c8ca4e258594ec0dd463e4bb5b15acdbc497f00a8207a658f9fc42095", func := "loop.example/g00147/laws.FnExactCubicLoss", spec := "fnExactCubicLoss", unfollowed := true, recurses := true, apart := false }
def FnExactCubicLossSaid : Prop := fnExactCubicLossRow.holds Try.pinned (OpenSpec.ofChange fnExactCubicLossSpec)

/-- ITS FALSE NEIGHBOUR: 'it returns false'. Refute it at one input. -/
def fnExactCubicLossWrong : ChangeSpec := { name := "fnExactCubicLoss", fn := fun _ => fun
  | [d] => { results := [.lit (.bool false)], args := [d] }
  | _ => none }
def FnExactCubicLossWrongFalsely : Prop := fnExactCubicLossRow.holds Try.pinned (OpenSpec.ofChange fnExactCubicLossWrong)

/-- 'laws.FnExactProbeOk': WHATEVER THE INPUT: true; the input reads as it did. -/
def fnExactProbeOkSpec : ChangeSpec := { name := "fnExactProbeOk", fn := fun _ => fun
  | [d] => { results := [.lit (.bool true)], args := [d] }
  | _ => none }
def fnExactProbeOkRow : OpenClaim := { program := "ytiibafphgjlffap", sum := "fd5c941c8ca4e258594ec0dd463e4bb5b15acdbc497f00a8207a658f9fc42095", func := "loop.example/g00147/laws.FnExactProbeOk", spec := "fnExactProbeOk", apart := false }
def FnExactProbeOkSaid : Prop := fnExactProbeOkRow.holds Try.pinned (OpenSpec.ofChange fnExactProbeOkSpec)

/-- ITS FALSE NEIGHBOUR: 'it returns false'. Refute it at one input. -/
def fnExactProbeOkWrong : ChangeSpec := { name := "fnExactProbeOk", fn := fun _ => fun
  | [d] => { results := [.lit (.bool false)], args := [d] }
  | _ => none }
def FnExactProbeOkWrongFalsely : Prop := fnExactProbeOkRow.holds Try.pinned (OpenSpec.ofChange fnExactProbeOkWrong)

/- THE SECOND FORM. 'bulk': how many values and letters a reading holds, each counted each time it is reached (what is shared counts as often as it is met; a slice's spare places count too). A statement '..UptoSaid' is the law's where the arguments, and the package variables that the reading takes, are together of bulk at most 1048576: NARROWER than '..Said'. Prove '..Said' where nothing that the law and all that it calls make is longer than what came in: it says more and counts as full. Else prove '..UptoSaid'. A law counts once. -/
mutual
def uptoBulk {H : Type} : DataW H → Nat
  | .lit (.string bytes) => bytes.length + 1
  | .lit _ => 1
  | .nil => 1
  | .ptr d => uptoBulk d + 1
  | .slice elems spare => uptoBulkAll elems + uptoBulkAll spare + 1
  | .agg parts => uptoBulkAll parts + 1
  | .iface _ d => uptoBulk d + 1
  | .map entries => uptoBulkEntries entries + 1
  | .held _ => 1
def uptoBulkAll {H : Type} : List (DataW H) → Nat
  | [] => 0
  | d :: r => uptoBulk d + uptoBulkAll r
def uptoBulkEntries {H : Type} : List (Lit × DataW H) → Nat
  | [] => 0
  | x :: r => uptoBulkEntry x + uptoBulkEntries r
def uptoBulkEntry {H : Type} : Lit × DataW H → Nat
  | (.string bytes, d) => bytes.length + uptoBulk d + 1
  | (_, d) => uptoBulk d + 1
 end
def uptoSmall : (H : Type) → List (DataW H) → Bool := fun _ ds => decide (uptoBulkAll ds ≤ 1048576)
def OpenSpec.upto (s : _root_.Go.ChangeSpec) : _root_.Go.OpenSpec := { _root_.Go.OpenSpec.ofChange s with cond := some uptoSmall }

/-- 'laws.FnExactRenoTimeout', WHERE WHAT IT READS IS OF BULK AT MOST 1048576: true; the input reads as it did. -/
def fnExactRenoTimeoutUptoRow : OpenClaim := { program := "ytiibafphgjlffap", sum := "fd5c941c8ca4e258594ec0dd463e4bb5b15acdbc497f00a8207a658f9fc42095", func := "loop.example/g00147/laws.FnExactRenoTimeout", spec := "fnExactRenoTimeout", unfollowed := true, recurses := true, apart := false, narrowed := true }
def FnExactRenoTimeoutUptoSaid : Prop := fnExactRenoTimeoutUptoRow.holds Try.pinned (OpenSpec.upto fnExactRenoTimeoutSpec)

/-- 'laws.FnExactCubicTime', WHERE WHAT IT READS IS OF BULK AT MOST 1048576: true; the input reads as it did. -/
def fnExactCubicTimeUptoRow : OpenClaim := { program := "ytiibafphgjlffap", sum := "fd5c941c8ca4e258594ec0dd463e4bb5b15acdbc497f00a8207a658f9fc42095", func := "loop.example/g00147/laws.FnExactCubicTime", spec := "fnExactCubicTime", inPlace := ["(*internal/sync.Mutex).Lock", "internal/race.Disable", "sync/atomic.CompareAndSwapInt32", "internal/race.Enable", "internal/race.Acquire", "(*internal/sync.Mutex).lockSlow", "internal/sync.runtime_canSpin", "internal/sync.runtime_doSpin", "internal/sync.throw", "internal/sync.runtime_nanotime", "internal/sync.runtime_SemacquireMutex", "sync/atomic.AddInt32", "(*internal/sync.Mutex).Unlock", "internal/race.ReleaseMerge", "(*internal/sync.Mutex).unlockSlow", "internal/sync.fatal", "internal/sync.runtime_Semrelease"], apart := false, narrowed := true }
def FnExactCubicTimeUptoSaid : Prop := fnExactCubicTimeUptoRow.holds Try.pinned (OpenSpec.upto fnExactCubicTimeSpec)

/-- 'laws.FnExactCubicAt', WHERE WHAT IT READS IS OF BULK AT MOST 1048576: true; the input reads as it did. -/
def fnExactCubicAtUptoRow : OpenClaim := { program := "ytiibafphgjlffap", sum := "fd5c941c8ca4e258594ec0dd463e4bb5b15acdbc497f00a8207a658f9fc42095", func := "loop.example/g00147/laws.FnExactCubicAt", spec := "fnExactCubicAt", inPlace := ["(*internal/sync.Mutex).Lock", "internal/race.Disable", "sync/atomic.CompareAndSwapInt32", "internal/race.Enable", "internal/race.Acquire", "(*internal/sync.Mutex).lockSlow", "internal/sync.runtime_canSpin", "internal/sync.runtime_doSpin", "internal/sync.throw", "internal/sync.runtime_nanotime", "internal/sync.runtime_SemacquireMutex", "sync/atomic.AddInt32", "(*internal/sync.Mutex).Unlock", "internal/race.ReleaseMerge", "(*internal/sync.Mutex).unlockSlow", "internal/sync.fatal", "internal/sync.runtime_Semrelease"], apart := false, narrowed := true }
def FnExactCubicAtUptoSaid : Prop := fnExactCubicAtUptoRow.holds Try.pinned (OpenSpec.upto fnExactCubicAtSpec)

/-- 'laws.FnExactCubicAck', WHERE WHAT IT READS IS OF BULK AT MOST 1048576: true; the input reads as it did. -/
def fnExactCubicAckUptoRow : OpenClaim := { program := "ytiibafphgjlffap", sum := "fd5c941c8ca4e258594ec0dd463e4bb5b15acdbc497f00a8207a658f9fc42095", func := "loop.example/g00147/laws.FnExactCubicAck", spec := "fnExactCubicAck", unfollowed := true, recurses := true, apart := false, narrowed := true }
def FnExactCubicAckUptoSaid : Prop := fnExactCubicAckUptoRow.holds Try.pinned (OpenSpec.upto fnExactCubicAckSpec)

/-- 'laws.FnExactCubicLoss', WHERE WHAT IT READS IS OF BULK AT MOST 1048576: true; the input reads as it did. -/
def fnExactCubicLossUptoRow : OpenClaim := { program := "ytiibafphgjlffap", sum := "fd5c941c8ca4e258594ec0dd463e4bb5b15acdbc497f00a8207a658f9fc42095", func := "loop.example/g00147/laws.FnExactCubicLoss", spec := "fnExactCubicLoss", unfollowed := true, recurses := true, apart := false, narrowed := true }
def FnExactCubicLossUptoSaid : Prop := fnExactCubicLossUptoRow.holds Try.pinned (OpenSpec.upto fnExactCubicLossSpec)

/-- 'laws.FnExactProbeOk', WHERE WHAT IT READS IS OF BULK AT MOST 1048576: true; the input reads as it did. -/
def fnExactProbeOkUptoRow : OpenClaim := { program := "ytiibafphgjlffap", sum := "fd5c941c8ca4e258594ec0dd463e4bb5b15acdbc497f00a8207a658f9fc42095", func := "loop.example/g00147/laws.FnExactProbeOk", spec := "fnExactProbeOk", apart := false, narrowed := true }
def FnExactProbeOkUptoSaid : Prop := fnExactProbeOkUptoRow.holds Try.pinned (OpenSpec.upto fnExactProbeOkSpec)

end Rows
end Go.Proofs.Ytiibafphgjlffap
