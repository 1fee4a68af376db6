/- What spec's buckets answer: Take, When, Reset. -/
import Derived.Test.YtcepopboldnicalSpecBuck3
import Derived.Deep.DeepCutAuto
namespace Go.Proofs.Ytcepopboldnical
open Go.ChangeShapes Go.WideShapes Go.ChangeAt Go.RowKit
set_option maxRecDepth 100000
set_option linter.unusedVariables false

theorem size1b {w w' : World} {A : Obj} (h : Below (w.alloc A).heap.size (w.alloc A) w') : w.heap.size < w'.heap.size := by
  have := h.size
  simp at this
  omega
def takeOk (r u l t now n : Int) : Bool := (bokB r u l t && timeB now) && segB n
def takeF (r u l t now n : Int) : Bool := takeOk r u l t now n && decide (1000000000 * n ≤ fillL r u l t now)
def takeOf (r u l t now n : Int) : Int × Int × Int × Int := if takeOk r u l t now n = true then (r, u, (if 1000000000 * n ≤ fillL r u l t now then fillL r u l t now - 1000000000 * n else fillL r u l t now), fillT t now) else (0, 0, 0, 0)
def whenOk (r u l t n : Int) : Bool := bokB r u l t && segB n
def whenOf (r u l t n : Int) : Int := if whenOk r u l t n = true then (if 1000000000 * n - l ≤ 0 then t else if u < n ∨ r = 0 then 1000000000000000 else min 1000000000000000 (t + (1000000000 * n - l + r - 1) / r)) else -1
theorem when_no {r u l t n : Int} (h : whenOk r u l t n = false) : whenOf r u l t n = -1 := by unfold whenOf; rw [h]; rfl
def resetOk (r u l t r' u' now : Int) : Bool := ((bokB r u l t && rateB r') && winB u') && timeB now
def resetOf (r u l t r' u' now : Int) : Int × Int × Int × Int := if resetOk r u l t r' u' now = true then (r', u', min (fillL r u l t now) (1000000000 * u'), fillT t now) else (0, 0, 0, 0)
theorem reset_no {r u l t r' u' now : Int} (h : resetOk r u l t r' u' now = false) : resetOf r u l t r' u' now = (0, 0, 0, 0) := by unfold resetOf; rw [h]; rfl
end Go.Proofs.Ytcepopboldnical
