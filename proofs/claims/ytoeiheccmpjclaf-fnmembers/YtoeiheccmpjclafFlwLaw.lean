/- The laws' sizes, copies and comparisons of Turns. -/
import Derived.Test.YtoeiheccmpjclafFlwPut
import Derived.Deep.RegionHeld3
import Derived.Deep.DeepCutAuto
import Derived.OwnWalk
import Derived.LoopTactic
import Derived.Laws.OwnMore
namespace Go.Proofs.Ytoeiheccmpjclaf
open Go.ChangeShapes Go.WideShapes Go.ChangeAt Go.RowKit
set_option maxRecDepth 100000
set_option linter.unusedVariables false
set_option linter.unusedSimpArgs false

/-- How many numbers the first k flows have. -/
def sumL (fs : List F8) : Nat → Nat
  | 0 => 0
  | k + 1 => sumL fs k + (match fs[k]? with | some f => f.2.2.length | none => 0)
theorem sumL_next {fs : List F8} {k : Nat} (h : k < fs.length) : sumL fs (k + 1) = sumL fs k + fs[k].2.2.length := by
  show sumL fs k + (match fs[k]? with | some f => f.2.2.length | none => 0) = _
  rw [List.getElem?_eq_getElem h]
theorem sumL_le (fs : List F8) (k : Nat) : ∀ d, sumL fs k ≤ sumL fs (k + d)
  | 0 => Nat.le_refl _
  | d + 1 => by
    have := sumL_le fs k d
    show sumL fs k ≤ sumL fs (k + d) + _
    omega
theorem sumL_mono (fs : List F8) {k m : Nat} (h : k ≤ m) : sumL fs k ≤ sumL fs m := by
  have := sumL_le fs k (m - k)
  rw [show k + (m - k) = m by omega] at this
  exact this
theorem info_int : (Try.prog.info? 2).map (fun i => (i.zero, i.size, i.bytes)) = some (some (.int .i64 0), 1, 8) := by kernel_rfl
theorem made_int (n j : Nat) (h : j < n * 1) : (madeCells (Value.int .i64 0).cells (n * 1)).toList[j]? = some (.int .i64 0) := by
  have hz : ∀ i : Nat, (#[Value.int .i64 0] : Array Value)[i % 1]! = .int .i64 0 := by
    intro i
    have : i % 1 = 0 := by omega
    rw [this]; rfl
  rw [Array.getElem?_toList]
  unfold madeCells
  rw [Array.getElem?_map, Array.getElem?_eq_getElem (by simpa using h)]
  show some _ = _
  rw [show ((Array.range (n * 1))[j]'(by simpa using h)) = j by simp]
  exact congrArg some (hz j)
theorem made_flow (n j : Nat) (h : j < n * 3) : ∃ z, (madeCells (Value.agg #[.int .i64 0, .int .i64 0, .slice none 0 0]).cells (n * 3)).toList[j]? = some z := by
  rw [Array.getElem?_toList]
  unfold madeCells
  rw [Array.getElem?_map, Array.getElem?_eq_getElem (by simpa using h)]
  exact ⟨_, rfl⟩
end Go.Proofs.Ytoeiheccmpjclaf
