/- What spec's Gain, Pace, Cap and NewProbe answer. -/
import Derived.Test.YtiibafphgjlffapSpecProbe
import Derived.Test.YtiibafphgjlffapLate
import Derived.Test.YtiibafphgjlffapLoss
namespace Go.Proofs.Ytiibafphgjlffap
open Go.ChangeShapes Go.WideShapes Go.ChangeAt Go.RowKit
set_option maxRecDepth 100000
set_option linter.unusedVariables false
set_option linter.unusedSimpArgs false

def gainOf (sa cy : Int) : Int := if sa = 1 then 289 else if sa = 2 then 35 else if sa = 3 then (if cy = 0 then 125 else if cy = 1 then 75 else 100) else 100
theorem gain_num (sa cy : Int) : 35 ≤ gainOf sa cy ∧ gainOf sa cy ≤ 289 := by
  unfold gainOf
  split <;> (try split) <;> (try split) <;> (try split) <;> (try split) <;> omega
theorem pok_fil {sa cy sn tp sv mt ta : Int} {xs : List (Int × Int)} (h : pokB sa cy sn tp sv mt ta xs = true) : FOk true xs ∧ timeB mt = true := by
  unfold pokB at h
  simp only [Bool.and_eq_true] at h
  exact ⟨fil_yes h.1.1.2, h.1.2⟩
theorem best_num {xs : List (Int × Int)} (h : FOk true xs) : 0 ≤ bestOf xs ∧ bestOf xs ≤ 1000000000000 := by
  match xs, h with
  | [], _ => exact ⟨Int.le_refl _, by decide⟩
  | x :: r, h =>
    have hs := (h.2 0 (by simp) (by simp)).1
    unfold smpB rateB at hs
    simp only [Bool.and_eq_true, decide_eq_true_eq] at hs
    exact hs.2
def capOf (sa mt : Int) (xs : List (Int × Int)) : Int := if sa = 4 then 6000 else min 1000000000 (max 6000 (2 * bytesOf (bestOf xs) mt))
theorem cells_eight {w : World} {g : Nat} {c0 c1 c2 c3 c4 c5 c6 c7 : Value} (h0 : w.cell? ⟨g, 0, none⟩ = some c0) (h1 : w.cell? ⟨g, 1, none⟩ = some c1) (h2 : w.cell? ⟨g, 2, none⟩ = some c2) (h3 : w.cell? ⟨g, 3, none⟩ = some c3) (h4 : w.cell? ⟨g, 4, none⟩ = some c4) (h5 : w.cell? ⟨g, 5, none⟩ = some c5) (h6 : w.cell? ⟨g, 6, none⟩ = some c6) (h7 : w.cell? ⟨g, 7, none⟩ = some c7) : ∀ j v, [c0, c1, c2, c3, c4, c5, c6, c7][j]? = some v → w.cell? ⟨g, j, none⟩ = some v := by
  intro j v hv
  match j, hv with
  | 0, hv => obtain rfl : c0 = v := by simpa using hv
             exact h0
  | 1, hv => obtain rfl : c1 = v := by simpa using hv
             exact h1
  | 2, hv => obtain rfl : c2 = v := by simpa using hv
             exact h2
  | 3, hv => obtain rfl : c3 = v := by simpa using hv
             exact h3
  | 4, hv => obtain rfl : c4 = v := by simpa using hv
             exact h4
  | 5, hv => obtain rfl : c5 = v := by simpa using hv
             exact h5
  | 6, hv => obtain rfl : c6 = v := by simpa using hv
             exact h6
  | 7, hv => obtain rfl : c7 = v := by simpa using hv
             exact h7
end Go.Proofs.Ytiibafphgjlffap
