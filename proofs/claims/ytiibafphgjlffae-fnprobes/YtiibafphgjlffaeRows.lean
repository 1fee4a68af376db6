/-
  No cell of these rows narrows 'for every input' (looked for: loops, veiled, ifaces, maps, wideKeys, modest, calm, conditions, laid).
  DERIVED. THE GIVEN ROWS OF THIS SEAT. 6 by the template 'for every input the law returns true; each argument reads behind the call as it read before'; 0 by the template 'total and deterministic' (their statements: YtiibafphgjlffaeTotals.lean).
  GIVEN WITH THE SEED: the statements are not yours to turn. If you find one false, say at which input.
  Laid BY PROGRAM, IN A SANDBOX (cutbox-rows.mjs): the forced cells as the released guide's own fill.sh prints them over the translation d3eccc41e52ceff5… (all of the seat's roots in one cut). By AI agents, Wed Nov 11 2026. No macro, syntax, notation, axiom, sorry.
-/
import Derived.Test.YtiibafphgjlffaeChecked
import GoSem.Claim
import GoSem.ClaimJoined
import GoSem.ClaimMapViews
import Derived.JoinedTies
import Derived.KernelRfl
namespace Go.Proofs.Ytiibafphgjlffae
/- THE CELL 'sum', in the pinned program and in every row, IS THE sha256 OF THE DUMP (.gsa) THAT YtiibafphgjlffaeProg.lean LOADS. Nothing in Lean hashes anything: it is a label: what it is worth is what the hold of that sum in a sandbox is worth. -/
noncomputable def Try.pinned : Pinned := { name := "ytiibafphgjlffae", sum := "d3eccc41e52ceff596eebaf3565cc41393c36749013efe16591eb4afb9c79a39", checked := Try.checked }
namespace Rows
def none {H : Type} : Left H := { results := [], args := [] }

/-- 'laws.FnWaits': WHATEVER THE INPUT: true; the input reads as it did. -/
def fnWaitsSpec : ChangeSpec := { name := "fnWaits", fn := fun _ => fun
  | [d] => { results := [.lit (.bool true)], args := [d] }
  | _ => none }
def fnWaitsRow : OpenClaim := { program := "ytiibafphgjlffae", sum := "d3eccc41e52ceff596eebaf3565cc41393c36749013efe16591eb4afb9c79a39", func := "loop.example/g00147/laws.FnWaits", spec := "fnWaits", unfollowed := true, recurses := true, apart := false }
def FnWaitsSaid : Prop := fnWaitsRow.holds Try.pinned (OpenSpec.ofChange fnWaitsSpec)

/-- ITS FALSE NEIGHBOUR: 'it returns false'. Refute it at one input. -/
def fnWaitsWrong : ChangeSpec := { name := "fnWaits", fn := fun _ => fun
  | [d] => { results := [.lit (.bool false)], args := [d] }
  | _ => none }
def FnWaitsWrongFalsely : Prop := fnWaitsRow.holds Try.pinned (OpenSpec.ofChange fnWaitsWrong)

/-- 'laws.FnWindows': WHATEVER THE INPUT: true; the input reads as it did. -/
def fnWindowsSpec : ChangeSpec := { name := "fnWindows", fn := fun _ => fun
  | [d] => { results := [.lit (.bool true)], args := [d] }
  | _ => none }
def fnWindowsRow : OpenClaim := { program := "ytiibafphgjlffae", sum := "d3eccc41e52ceff596eebaf3565cc41393c36749013efe16591eb4afb9c79a39", func := "loop.example/g00147/laws.FnWindows", spec := "fnWindows", unfollowed := true, recurses := true, apart := false }
def FnWindowsSaid : Prop := fnWindowsRow.holds Try.pinned (OpenSpec.ofChange fnWindowsSpec)

/-- ITS FALSE NEIGHBOUR: 'it returns false'. Refute it at one input. -/
def fnWindowsWrong : ChangeSpec := { name := "fnWindows", fn := fun _ => fun
  | [d] => { results := [.lit (.bool false)], args := [d] }
  | _ => none }
def FnWindowsWrongFalsely : Prop := fnWindowsRow.holds Try.pinned (OpenSpec.ofChange fnWindowsWrong)

/-- 'laws.FnSentOut': WHATEVER THE INPUT: true; the input reads as it did. -/
def fnSentOutSpec : ChangeSpec := { name := "fnSentOut", fn := fun _ => fun
  | [d] => { results := [.lit (.bool true)], args := [d] }
  | _ => none }
def fnSentOutRow : OpenClaim := { program := "ytiibafphgjlffae", sum := "d3eccc41e52ceff596eebaf3565cc41393c36749013efe16591eb4afb9c79a39", func := "loop.example/g00147/laws.FnSentOut", spec := "fnSentOut", apart := false }
def FnSentOutSaid : Prop := fnSentOutRow.holds Try.pinned (OpenSpec.ofChange fnSentOutSpec)

/-- ITS FALSE NEIGHBOUR: 'it returns false'. Refute it at one input. -/
def fnSentOutWrong : ChangeSpec := { name := "fnSentOut", fn := fun _ => fun
  | [d] => { results := [.lit (.bool false)], args := [d] }
  | _ => none }
def FnSentOutWrongFalsely : Prop := fnSentOutRow.holds Try.pinned (OpenSpec.ofChange fnSentOutWrong)

/-- 'laws.FnCurve': WHATEVER THE INPUT: true; the input reads as it did. -/
def fnCurveSpec : ChangeSpec := { name := "fnCurve", fn := fun _ => fun
  | [d] => { results := [.lit (.bool true)], args := [d] }
  | _ => none }
def fnCurveRow : OpenClaim := { program := "ytiibafphgjlffae", sum := "d3eccc41e52ceff596eebaf3565cc41393c36749013efe16591eb4afb9c79a39", func := "loop.example/g00147/laws.FnCurve", spec := "fnCurve", inPlace := ["(*internal/sync.Mutex).Lock", "internal/race.Disable", "sync/atomic.CompareAndSwapInt32", "internal/race.Enable", "internal/race.Acquire", "(*internal/sync.Mutex).lockSlow", "internal/sync.runtime_canSpin", "internal/sync.runtime_doSpin", "internal/sync.throw", "internal/sync.runtime_nanotime", "internal/sync.runtime_SemacquireMutex", "sync/atomic.AddInt32", "(*internal/sync.Mutex).Unlock", "internal/race.ReleaseMerge", "(*internal/sync.Mutex).unlockSlow", "internal/sync.fatal", "internal/sync.runtime_Semrelease"], apart := false }
def FnCurveSaid : Prop := fnCurveRow.holds Try.pinned (OpenSpec.ofChange fnCurveSpec)

/-- ITS FALSE NEIGHBOUR: 'it returns false'. Refute it at one input. -/
def fnCurveWrong : ChangeSpec := { name := "fnCurve", fn := fun _ => fun
  | [d] => { results := [.lit (.bool false)], args := [d] }
  | _ => none }
def FnCurveWrongFalsely : Prop := fnCurveRow.holds Try.pinned (OpenSpec.ofChange fnCurveWrong)

/-- 'laws.FnCubic': WHATEVER THE INPUT: true; the input reads as it did. -/
def fnCubicSpec : ChangeSpec := { name := "fnCubic", fn := fun _ => fun
  | [d] => { results := [.lit (.bool true)], args := [d] }
  | _ => none }
def fnCubicRow : OpenClaim := { program := "ytiibafphgjlffae", sum := "d3eccc41e52ceff596eebaf3565cc41393c36749013efe16591eb4afb9c79a39", func := "loop.example/g00147/laws.FnCubic", spec := "fnCubic", unfollowed := true, recurses := true, apart := false }
def FnCubicSaid : Prop := fnCubicRow.holds Try.pinned (OpenSpec.ofChange fnCubicSpec)

/-- ITS FALSE NEIGHBOUR: 'it returns false'. Refute it at one input. -/
def fnCubicWrong : ChangeSpec := { name := "fnCubic", fn := fun _ => fun
  | [d] => { results := [.lit (.bool false)], args := [d] }
  | _ => none }
def FnCubicWrongFalsely : Prop := fnCubicRow.holds Try.pinned (OpenSpec.ofChange fnCubicWrong)

/-- 'laws.FnProbes': WHATEVER THE INPUT: true; the input reads as it did. -/
def fnProbesSpec : ChangeSpec := { name := "fnProbes", fn := fun _ => fun
  | [d] => { results := [.lit (.bool true)], args := [d] }
  | _ => none }
def fnProbesRow : OpenClaim := { program := "ytiibafphgjlffae", sum := "d3eccc41e52ceff596eebaf3565cc41393c36749013efe16591eb4afb9c79a39", func := "loop.example/g00147/laws.FnProbes", spec := "fnProbes", unfollowed := true, recurses := true, apart := false }
def FnProbesSaid : Prop := fnProbesRow.holds Try.pinned (OpenSpec.ofChange fnProbesSpec)

/-- ITS FALSE NEIGHBOUR: 'it returns false'. Refute it at one input. -/
def fnProbesWrong : ChangeSpec := { name := "fnProbes", fn := fun _ => fun
  | [d] => { results := [.lit (.bool false)], args := [d] }
  | _ => none }
def FnProbesWrongFalsely : Prop := fnProbesRow.holds Try.pinned (OpenSpec.ofChange fnProbesWrong)

/- THE SECOND FORM. 'bulk': how many values and letters a reading holds, each counted each time it is reached (what is shared counts as often as it is met; a slice's spare places count too). A statement '..UptoSaid' is the law's where the arguments, and the package variables that the reading takes, are together of bulk at most 1048576: NARROWER than '..Said'. Prove '..Said' where nothing that the law and all that it calls make is longer than what came in: it says more and counts as full. Else prove '..UptoSaid'. A law counts once. -/
mutual
def uptoBulk {H : Type} : DataW H → Nat
  | .lit (.string bytes) => bytes.length + 1
  | .lit _ => 1
  | .nil => 1
  | .ptr d => uptoBulk d + 1
  | .slice elems spare => uptoBulkAll elems + uptoBulkAll spare + 1
  | .agg parts => uptoBulkAll parts + 1
  | .iface _ d => uptoBulk d + 1
  | .map entries => uptoBulkEntries entries + 1
  | .held _ => 1
def uptoBulkAll {H : Type} : List (DataW H) → Nat
  | [] => 0
  | d :: r => uptoBulk d + uptoBulkAll r
def uptoBulkEntries {H : Type} : List (Lit × DataW H) → Nat
  | [] => 0
  | x :: r => uptoBulkEntry x + uptoBulkEntries r
def uptoBulkEntry {H : Type} : Lit × DataW H → Nat
  | (.string bytes, d) => bytes.length + uptoBulk d + 1
  | (_, d) => uptoBulk d + 1
 end
def uptoSmall : (H : Type) → List (DataW H) → Bool := fun _ ds => decide (uptoBulkAll ds ≤ 1048576)
def OpenSpec.upto (s : _root_.Go.ChangeSpec) : _root_.Go.OpenSpec := { _root_.Go.OpenSpec.ofChange s with cond := some uptoSmall }

/-- 'laws.FnWaits', WHERE WHAT IT READS IS OF BULK AT MOST 1048576: true; the input reads as it did. -/
def fnWaitsUptoRow : OpenClaim := { program := "ytiibafphgjlffae", sum := "d3eccc41e52ceff596eebaf3565cc41393c36749013efe16591eb4afb9c79a39", func := "loop.example/g00147/laws.FnWaits", spec := "fnWaits", unfollowed := true, recurses := true, apart := false, narrowed := true }
def FnWaitsUptoSaid : Prop := fnWaitsUptoRow.holds Try.pinned (OpenSpec.upto fnWaitsSpec)

/-- 'laws.FnWindows', WHERE WHAT IT READS IS OF BULK AT MOST 1048576: true; the input reads as it did. -/
def fnWindowsUptoRow : OpenClaim := { program := "ytiibafphgjlffae", sum := "d3eccc41e52ceff596eebaf3565cc41393c36749013efe16591eb4afb9c79a39", func := "loop.example/g00147/laws.FnWindows", spec := "fnWindows", unfollowed := true, recurses := true, apart := false, narrowed := true }
def FnWindowsUptoSaid : Prop := fnWindowsUptoRow.holds Try.pinned (OpenSpec.upto fnWindowsSpec)

/-- 'laws.FnSentOut', WHERE WHAT IT READS IS OF BULK AT MOST 1048576: true; the input reads as it did. -/
def fnSentOutUptoRow : OpenClaim := { program := "ytiibafphgjlffae", sum := "d3eccc41e52ceff596eebaf3565cc41393c36749013efe16591eb4afb9c79a39", func := "loop.example/g00147/laws.FnSentOut", spec := "fnSentOut", apart := false, narrowed := true }
def FnSentOutUptoSaid : Prop := fnSentOutUptoRow.holds Try.pinned (OpenSpec.upto fnSentOutSpec)

/-- 'laws.FnCurve', WHERE WHAT IT READS IS OF BULK AT MOST 1048576: true; the input reads as it did. -/
def fnCurveUptoRow : OpenClaim := { program := "ytiibafphgjlffae", sum := "d3eccc41e52ceff596eebaf3565cc41393c36749013efe16591eb4afb9c79a39", func := "loop.example/g00147/laws.FnCurve", spec := "fnCurve", inPlace := ["(*internal/sync.Mutex).Lock", "internal/race.Disable", "sync/atomic.CompareAndSwapInt32", "internal/race.Enable", "internal/race.Acquire", "(*internal/sync.Mutex).lockSlow", "internal/sync.runtime_canSpin", "internal/sync.runtime_doSpin", "internal/sync.throw", "internal/sync.runtime_nanotime", "internal/sync.runtime_SemacquireMutex", "sync/atomic.AddInt32", "(*internal/sync.Mutex).Unlock", "internal/race.ReleaseMerge", "(*internal/sync.Mutex).unlockSlow", "internal/sync.fatal", "internal/sync.runtime_Semrelease"], apart := false, narrowed := true }
def FnCurveUptoSaid : Prop := fnCurveUptoRow.holds Try.pinned (OpenSpec.upto fnCurveSpec)

/-- 'laws.FnCubic', WHERE WHAT IT READS IS OF BULK AT MOST 1048576: true; the input reads as it did. -/
def fnCubicUptoRow : OpenClaim := { program := "ytiibafphgjlffae", sum := "d3eccc41e52ceff596eebaf3565cc41393c36749013efe16591eb4afb9c79a39", func := "loop.example/g00147/laws.FnCubic", spec := "fnCubic", unfollowed := true, recurses := true, apart := false, narrowed := true }
def FnCubicUptoSaid : Prop := fnCubicUptoRow.holds Try.pinned (OpenSpec.upto fnCubicSpec)

/-- 'laws.FnProbes', WHERE WHAT IT READS IS OF BULK AT MOST 1048576: true; the input reads as it did. -/
def fnProbesUptoRow : OpenClaim := { program := "ytiibafphgjlffae", sum := "d3eccc41e52ceff596eebaf3565cc41393c36749013efe16591eb4afb9c79a39", func := "loop.example/g00147/laws.FnProbes", spec := "fnProbes", unfollowed := true, recurses := true, apart := false, narrowed := true }
def FnProbesUptoSaid : Prop := fnProbesUptoRow.holds Try.pinned (OpenSpec.upto fnProbesSpec)

end Rows
end Go.Proofs.Ytiibafphgjlffae
