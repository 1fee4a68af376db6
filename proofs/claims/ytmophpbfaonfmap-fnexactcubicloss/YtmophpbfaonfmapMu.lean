/- Under which numbers this dump holds sync.Mutex, and that it holds it: the library's contracts of Lock and Unlock then speak of it. -/
import Derived.Test.YtmophpbfaonfmapRows
import Derived.Conc.MuLib
import Derived.Conc.MuLone
import Derived.WalkKit
import Derived.ProofKit
import Derived.KernelRfl
namespace Go.Proofs.Ytmophpbfaonfmap
open Go.RowKit
set_option maxRecDepth 100000
set_option linter.unusedVariables false

abbrev muLink : Go.Conc.Locks.MuLink := { lock := 43, unlock := 44, ilock := 48, iunlock := 49, lockSlow := 54, unlockSlow := 57, disable := 50, enable := 52, acquire := 53, relMerge := 55, cas32 := 51, add32 := 56, tMutex := 58, tIMutex := 56, tPMutex := 67, tPIMutex := 68, tPI32 := 70, tUP := 72, tNoCopy := 53, tU32 := 54 }
theorem muLib : Go.Conc.Locks.MuLib Try.prog muLink :=
  ⟨Try.func43, Try.func44, Try.func48, Try.func49, Try.func50, Try.func52, Try.func53, Try.func55, Try.func51, Try.func56, Try.underlying56, Try.runUnderlying56, Try.sizeOf56, Try.isAgg56, Try.zeroValue56, Try.underlying58, Try.runUnderlying58, Try.sizeOf58, Try.isAgg58, Try.zeroValue58, Try.underlying67, Try.runUnderlying67, Try.sizeOf67, Try.isAgg67, Try.zeroValue67, Try.underlying68, Try.runUnderlying68, Try.sizeOf68, Try.isAgg68, Try.zeroValue68, Try.underlying70, Try.runUnderlying70, Try.sizeOf70, Try.isAgg70, Try.zeroValue70, Try.underlying72, Try.runUnderlying72, Try.sizeOf72, Try.isAgg72, Try.zeroValue72, Try.underlying53, Try.runUnderlying53, Try.sizeOf53, Try.isAgg53, Try.zeroValue53, Try.underlying21, Try.runUnderlying21, Try.sizeOf21, Try.isAgg21, Try.zeroValue21, by kernel_rfl⟩
end Go.Proofs.Ytmophpbfaonfmap
