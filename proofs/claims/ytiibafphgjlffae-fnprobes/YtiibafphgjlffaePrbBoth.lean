/- Gain, Pace and Cap: both sides at any Probe. -/
import Derived.Test.YtiibafphgjlffaeImplProbe
namespace Go.Proofs.Ytiibafphgjlffae
open Go.ChangeShapes Go.WideShapes Go.ChangeAt Go.RowKit
set_option maxRecDepth 100000
set_option linter.unusedVariables false
set_option linter.unusedSimpArgs false

open Classical in
noncomputable def gainAns (sa cy sn tp sv mt ta : Int) (xs : List (Int × Int)) : Int := if pokB sa cy sn tp sv mt ta xs = true then gainOf sa cy else 0
theorem specGain_any {sa cy sn tp sv mt ta : Int} {w : World} {a : Option Addr} (cap : Nat) {xs : List (Int × Int)} (smp : Smp w.heap.size w a xs) : Calls Try.prog 50 #[.agg #[.int .i64 sa, .int .i64 cy, .int .i64 sn, .int .i64 tp, .int .i64 sv, .slice a xs.length cap, .int .i64 mt, .int .i64 ta]] w fun e w' => e = .returned (.int .i64 (gainAns sa cy sn tp sv mt ta xs)) ∧ Below w.heap.size w w' := by
  unfold gainAns
  cases hp : pokB sa cy sn tp sv mt ta xs
  · rw [if_neg (by decide)]
    exact specGain_no cap hp smp
  · rw [if_pos rfl]
    exact specGain_yes cap hp smp
theorem implGain_any {sa cy sn tp sv mt ta : Int} {w : World} {a : Option Addr} (cap : Nat) {xs : List (Int × Int)} (smp : Smp w.heap.size w a xs) : Calls Try.prog 49 #[.agg #[.int .i64 sa, .int .i64 cy, .int .i64 sn, .int .i64 tp, .int .i64 sv, .slice a xs.length cap, .int .i64 mt, .int .i64 ta]] w fun e w' => e = .returned (.int .i64 (gainAns sa cy sn tp sv mt ta xs)) ∧ Below w.heap.size w w' := by
  unfold gainAns
  cases hp : pokB sa cy sn tp sv mt ta xs
  · rw [if_neg (by decide)]
    exact implGain_no cap hp smp
  · rw [if_pos rfl]
    exact implGain_yes cap hp smp
open Classical in
noncomputable def paceAns (sa cy sn tp sv mt ta : Int) (xs : List (Int × Int)) : Int := if pokB sa cy sn tp sv mt ta xs = true then min 1000000000000 (bestOf xs * gainOf sa cy / 100) else 0
theorem specPace_any {sa cy sn tp sv mt ta : Int} {w : World} {a : Option Addr} (cap : Nat) {xs : List (Int × Int)} (smp : Smp w.heap.size w a xs) : Calls Try.prog 46 #[.agg #[.int .i64 sa, .int .i64 cy, .int .i64 sn, .int .i64 tp, .int .i64 sv, .slice a xs.length cap, .int .i64 mt, .int .i64 ta]] w fun e w' => e = .returned (.int .i64 (paceAns sa cy sn tp sv mt ta xs)) ∧ Below w.heap.size w w' := by
  unfold paceAns
  cases hp : pokB sa cy sn tp sv mt ta xs
  · rw [if_neg (by decide)]
    exact specPace_no cap hp smp
  · rw [if_pos rfl]
    exact specPace_yes cap hp smp
theorem implPace_any {sa cy sn tp sv mt ta : Int} {w : World} {a : Option Addr} (cap : Nat) {xs : List (Int × Int)} (smp : Smp w.heap.size w a xs) : Calls Try.prog 45 #[.agg #[.int .i64 sa, .int .i64 cy, .int .i64 sn, .int .i64 tp, .int .i64 sv, .slice a xs.length cap, .int .i64 mt, .int .i64 ta]] w fun e w' => e = .returned (.int .i64 (paceAns sa cy sn tp sv mt ta xs)) ∧ Below w.heap.size w w' := by
  unfold paceAns
  cases hp : pokB sa cy sn tp sv mt ta xs
  · rw [if_neg (by decide)]
    exact implPace_no cap hp smp
  · rw [if_pos rfl]
    exact implPace_yes cap hp smp
open Classical in
noncomputable def capAns (sa cy sn tp sv mt ta : Int) (xs : List (Int × Int)) : Int := if pokB sa cy sn tp sv mt ta xs = true then capOf sa mt xs else 0
theorem specCap_any {sa cy sn tp sv mt ta : Int} {w : World} {a : Option Addr} (cap : Nat) {xs : List (Int × Int)} (smp : Smp w.heap.size w a xs) : Calls Try.prog 48 #[.agg #[.int .i64 sa, .int .i64 cy, .int .i64 sn, .int .i64 tp, .int .i64 sv, .slice a xs.length cap, .int .i64 mt, .int .i64 ta]] w fun e w' => e = .returned (.int .i64 (capAns sa cy sn tp sv mt ta xs)) ∧ Below w.heap.size w w' := by
  unfold capAns
  cases hp : pokB sa cy sn tp sv mt ta xs
  · rw [if_neg (by decide)]
    exact specCap_no cap hp smp
  · rw [if_pos rfl]
    unfold capOf
    by_cases h4 : sa = 4
    · subst h4
      rw [if_pos rfl]
      exact specCap_trip cap hp smp
    · rw [if_neg h4]
      exact specCap_yes cap hp h4 smp
theorem implCap_any {sa cy sn tp sv mt ta : Int} {w : World} {a : Option Addr} (cap : Nat) {xs : List (Int × Int)} (smp : Smp w.heap.size w a xs) : Calls Try.prog 47 #[.agg #[.int .i64 sa, .int .i64 cy, .int .i64 sn, .int .i64 tp, .int .i64 sv, .slice a xs.length cap, .int .i64 mt, .int .i64 ta]] w fun e w' => e = .returned (.int .i64 (capAns sa cy sn tp sv mt ta xs)) ∧ Below w.heap.size w w' := by
  unfold capAns
  cases hp : pokB sa cy sn tp sv mt ta xs
  · rw [if_neg (by decide)]
    exact implCap_no cap hp smp
  · rw [if_pos rfl]
    unfold capOf
    by_cases h4 : sa = 4
    · subst h4
      rw [if_pos rfl]
      exact implCap_trip cap hp smp
    · rw [if_neg h4]
      exact implCap_yes cap hp h4 smp
end Go.Proofs.Ytiibafphgjlffae
