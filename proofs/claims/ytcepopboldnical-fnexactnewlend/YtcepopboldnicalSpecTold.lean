/- What spec.l7Told answers. -/
import Derived.Test.YtcepopboldnicalSpecLend
import Derived.Test.YtcepopboldnicalSpecLeaf
namespace Go.Proofs.Ytcepopboldnical
open Go.ChangeShapes Go.WideShapes Go.ChangeAt Go.RowKit
set_option maxRecDepth 100000
set_option linter.unusedVariables false
set_option linter.unusedSimpArgs false

def toldB (T O P : List Q4) (leaf now n : Int) : Bool := ((((lendB T O P && (decide (0 ≤ leaf) && decide (leaf ≤ (T.length : Int) - 1))) && leafB T leaf) && timeB now) && decide (atOf O ≤ now)) && segB n
theorem sTime_is {x : Int} {f : Bool} (h : timeB x = f) (w : World) : Calls Try.prog 45 #[.int .i64 x] w fun e w' => e = .returned (.bool f) ∧ w' = w := by subst h; exact time_any x w
theorem sLeaf_is {w : World} {a : Option Addr} (cap : Nat) {ts : List Q4} {i : Int} {f : Bool} (hf : leafB ts i = f) (h : Quad w.heap.size w a ts) (hl : ts.length ≤ 1048576) :
    Calls Try.prog 40 #[.slice a ts.length cap, .int .i64 i] w fun e w' => e = .returned (.bool f) ∧ w' = w := by subst hf; exact specLeaf_any cap i h hl
end Go.Proofs.Ytcepopboldnical
