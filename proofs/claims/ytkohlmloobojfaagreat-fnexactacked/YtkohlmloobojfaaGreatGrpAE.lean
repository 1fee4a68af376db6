/- Lemmas on the way, of several texts: Mu. -/
import Derived.Test.YtkohlmloobojfaaGreatRows
import Derived.Conc.MuLib
import Derived.Conc.MuLone
import Derived.WalkKit
import Derived.ProofKit
import Derived.KernelRfl
namespace Go.Proofs.YtkohlmloobojfaaGreat
open Go.RowKit
set_option maxRecDepth 100000
set_option linter.unusedVariables false
abbrev muLink : Go.Conc.Locks.MuLink := { lock := 216, unlock := 217, ilock := 219, iunlock := 220, lockSlow := 225, unlockSlow := 228, disable := 221, enable := 223, acquire := 224, relMerge := 226, cas32 := 222, add32 := 227, tMutex := 209, tIMutex := 207, tPMutex := 228, tPIMutex := 229, tPI32 := 231, tUP := 233, tNoCopy := 204, tU32 := 205 }
theorem muLib : Go.Conc.Locks.MuLib Tryz.prog muLink :=
 ⟨Tryz.func216, Tryz.func217, Tryz.func219, Tryz.func220, Tryz.func221, Tryz.func223, Tryz.func224, Tryz.func226, Tryz.func222, Tryz.func227, Tryz.underlying207, Tryz.runUnderlying207, Tryz.sizeOf207, Tryz.isAgg207, Tryz.zeroValue207, Tryz.underlying209, Tryz.runUnderlying209, Tryz.sizeOf209, Tryz.isAgg209, Tryz.zeroValue209, Tryz.underlying228, Tryz.runUnderlying228, Tryz.sizeOf228, Tryz.isAgg228, Tryz.zeroValue228, Tryz.underlying229, Tryz.runUnderlying229, Tryz.sizeOf229, Tryz.isAgg229, Tryz.zeroValue229, Tryz.underlying231, Tryz.runUnderlying231, Tryz.sizeOf231, Tryz.isAgg231, Tryz.zeroValue231, Tryz.underlying233, Tryz.runUnderlying233, Tryz.sizeOf233, Tryz.isAgg233, Tryz.zeroValue233, Tryz.underlying204, Tryz.runUnderlying204, Tryz.sizeOf204, Tryz.isAgg204, Tryz.zeroValue204, Tryz.underlying21, Tryz.runUnderlying21, Tryz.sizeOf21, Tryz.isAgg21, Tryz.zeroValue21, by kernel_rfl⟩
end Go.Proofs.YtkohlmloobojfaaGreat
