/- What chapter 10's Sent answers, spec's and impl's. -/
import Derived.Test.YtmophpbfaonfmapNewCc
namespace Go.Proofs.Ytmophpbfaonfmap
open Go.ChangeShapes Go.WideShapes Go.ChangeAt Go.RowKit
set_option maxRecDepth 100000
set_option linter.unusedVariables false

def sentB (k wn th fl ac la og st fr n : Int) : Bool := (ccB k wn th fl ac la og st fr && s10B n) && decide (fl + n ≤ wn)
theorem seg_num {x : Int} (h : s10B x = true) : 1 ≤ x ∧ x ≤ 1500 := by
  unfold s10B at h
  simp only [Bool.and_eq_true, decide_eq_true_eq] at h
  exact h
end Go.Proofs.Ytmophpbfaonfmap
