/- Under which numbers this dump holds sync.Mutex, and that it holds it: the library's contracts of Lock and Unlock then speak of it. -/
import Derived.Test.YtmophpbfaonfmaeRows
import Derived.Conc.MuLib
import Derived.Conc.MuLone
import Derived.WalkKit
import Derived.ProofKit
import Derived.KernelRfl
namespace Go.Proofs.Ytmophpbfaonfmae
open Go.RowKit
set_option maxRecDepth 100000
set_option linter.unusedVariables false

abbrev muLink : Go.Conc.Locks.MuLink := { lock := 82, unlock := 83, ilock := 86, iunlock := 87, lockSlow := 92, unlockSlow := 95, disable := 88, enable := 90, acquire := 91, relMerge := 93, cas32 := 89, add32 := 94, tMutex := 88, tIMutex := 86, tPMutex := 94, tPIMutex := 95, tPI32 := 97, tUP := 99, tNoCopy := 83, tU32 := 84 }
theorem muLib : Go.Conc.Locks.MuLib Try.prog muLink :=
  ⟨Try.func82, Try.func83, Try.func86, Try.func87, Try.func88, Try.func90, Try.func91, Try.func93, Try.func89, Try.func94, Try.underlying86, Try.runUnderlying86, Try.sizeOf86, Try.isAgg86, Try.zeroValue86, Try.underlying88, Try.runUnderlying88, Try.sizeOf88, Try.isAgg88, Try.zeroValue88, Try.underlying94, Try.runUnderlying94, Try.sizeOf94, Try.isAgg94, Try.zeroValue94, Try.underlying95, Try.runUnderlying95, Try.sizeOf95, Try.isAgg95, Try.zeroValue95, Try.underlying97, Try.runUnderlying97, Try.sizeOf97, Try.isAgg97, Try.zeroValue97, Try.underlying99, Try.runUnderlying99, Try.sizeOf99, Try.isAgg99, Try.zeroValue99, Try.underlying83, Try.runUnderlying83, Try.sizeOf83, Try.isAgg83, Try.zeroValue83, Try.underlying21, Try.runUnderlying21, Try.sizeOf21, Try.isAgg21, Try.zeroValue21, by kernel_rfl⟩
end Go.Proofs.Ytmophpbfaonfmae
