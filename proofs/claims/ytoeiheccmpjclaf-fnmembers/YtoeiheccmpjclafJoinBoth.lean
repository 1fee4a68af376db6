/- Both sides of Join and Quit: one list, one Place's numbers. -/
import Derived.Test.YtoeiheccmpjclafImplJoin
import Derived.Test.YtoeiheccmpjclafPlcBoth
namespace Go.Proofs.Ytoeiheccmpjclaf
open Go.ChangeShapes Go.WideShapes Go.ChangeAt Go.RowKit
set_option maxRecDepth 100000
set_option linter.unusedVariables false
set_option linter.unusedSimpArgs false

theorem joins (wd fl id : Int) (xs : List Int) : ∃ (ys : List Int) (zd zf : Int) (zb : Bool), ys.length ≤ 1048576 ∧ (zb = true → plB wd fl xs = true ∧ inQ 0 id 1000000 = true ∧ xs.length < 50 ∧ hasI id xs = false ∧ ys = insI xs id ∧ zd = wd ∧ zf = fl) ∧ (zb = false → ys = [] ∧ zd = 0 ∧ zf = 0) ∧
    (∀ (w : World) (a : Option Addr) (cap : Nat), ISmp w.heap.size w a xs → xs.length ≤ cap → Calls Try.prog 17 #[.agg #[.int .i64 wd, .int .i64 fl, .slice a xs.length cap], .int .i64 id] w (AnsPT w ys zd zf zb)) ∧
    (∀ (w : World) (a : Option Addr) (cap : Nat), ISmp w.heap.size w a xs → xs.length ≤ cap → Calls Try.prog 16 #[.agg #[.int .i64 wd, .int .i64 fl, .slice a xs.length cap], .int .i64 id] w (AnsPT w ys zd zf zb)) := by
  have Z : ∀ {w : World} {e : Ending} {w' : World}, (e = .returned (.tuple #[.agg #[.int .i64 0, .int .i64 0, .slice none 0 0], .bool false]) ∧ Below w.heap.size w w') → AnsPT w [] 0 0 false e w' := fun k => ansPT_zero k
  cases hp : plB wd fl xs
  · exact ⟨[], 0, 0, false, by decide, fun e => (by cases e), fun _ => ⟨rfl, rfl, rfl⟩, fun w a cap smp _ => (specJoin_no0 cap hp smp).mono fun e w' k => Z k, fun w a cap smp _ => (implJoin_no0 cap hp smp).mono fun e w' k => Z k⟩
  have hl := (pl_num hp).2.2
  cases hn : inQ 0 id 1000000
  · exact ⟨[], 0, 0, false, by decide, fun e => (by cases e), fun _ => ⟨rfl, rfl, rfl⟩, fun w a cap smp _ => (specJoin_no1 cap hp hn smp).mono fun e w' k => Z k, fun w a cap smp _ => (implJoin_no1 cap hp hn smp).mono fun e w' k => Z k⟩
  cases hh : hasI id xs
  · by_cases h5 : xs.length = 50
    · exact ⟨[], 0, 0, false, by decide, fun e => (by cases e), fun _ => ⟨rfl, rfl, rfl⟩, fun w a cap smp _ => (specJoin_no3 cap hp hn hh h5 smp).mono fun e w' k => Z k, fun w a cap smp _ => (implJoin_no3 cap hp hn h5 smp).mono fun e w' k => Z k⟩
    · exact ⟨insI xs id, wd, fl, true, by rw [insI_len]; omega, fun _ => ⟨rfl, rfl, by omega, rfl, rfl, rfl, rfl⟩, fun e => (by cases e), fun w a cap smp hc => specJoin_yes cap hp hn hh (by omega) hc smp, fun w a cap smp _ => implJoin_yes cap hp hn (by omega) hh smp⟩
  · by_cases h5 : xs.length = 50
    · exact ⟨[], 0, 0, false, by decide, fun e => (by cases e), fun _ => ⟨rfl, rfl, rfl⟩, fun w a cap smp _ => (specJoin_no2 cap hp hn hh smp).mono fun e w' k => Z k, fun w a cap smp _ => (implJoin_no3 cap hp hn h5 smp).mono fun e w' k => Z k⟩
    · exact ⟨[], 0, 0, false, by decide, fun e => (by cases e), fun _ => ⟨rfl, rfl, rfl⟩, fun w a cap smp _ => (specJoin_no2 cap hp hn hh smp).mono fun e w' k => Z k, fun w a cap smp _ => (implJoin_no2 cap hp hn (by omega) hh smp).mono fun e w' k => Z k⟩
theorem quits (wd fl id n : Int) (xs : List Int) : ∃ (ys : List Int) (zd zf : Int) (zb : Bool), ys.length ≤ 1048576 ∧ (zb = true → plB wd fl xs = true ∧ w10B n = true ∧ hasI id xs = true ∧ ys = delI xs id ∧ zd = wd ∧ zf = max 0 (fl - n)) ∧ (zb = false → ys = [] ∧ zd = 0 ∧ zf = 0 ∧ ¬ (plB wd fl xs = true ∧ w10B n = true ∧ hasI id xs = true)) ∧
    (∀ (w : World) (a : Option Addr) (cap : Nat), ISmp w.heap.size w a xs → xs.length ≤ cap → Calls Try.prog 21 #[.agg #[.int .i64 wd, .int .i64 fl, .slice a xs.length cap], .int .i64 id, .int .i64 n] w (AnsPT w ys zd zf zb)) ∧
    (∀ (w : World) (a : Option Addr) (cap : Nat), ISmp w.heap.size w a xs → xs.length ≤ cap → Calls Try.prog 20 #[.agg #[.int .i64 wd, .int .i64 fl, .slice a xs.length cap], .int .i64 id, .int .i64 n] w (AnsPT w ys zd zf zb)) := by
  have Z : ∀ {w : World} {e : Ending} {w' : World}, (e = .returned (.tuple #[.agg #[.int .i64 0, .int .i64 0, .slice none 0 0], .bool false]) ∧ Below w.heap.size w w') → AnsPT w [] 0 0 false e w' := fun k => ansPT_zero k
  cases hp : plB wd fl xs
  · exact ⟨[], 0, 0, false, by decide, fun e => (by cases e), fun _ => ⟨rfl, rfl, rfl, fun h => (by cases h.1)⟩, fun w a cap smp _ => (specQuit_no0 cap hp smp).mono fun e w' k => Z k, fun w a cap smp _ => (implQuit_no0 cap hp smp).mono fun e w' k => Z k⟩
  have hl := (pl_num hp).2.2
  cases hn : w10B n
  · cases hh : hasI id xs
    · exact ⟨[], 0, 0, false, by decide, fun e => (by cases e), fun _ => ⟨rfl, rfl, rfl, fun h => (by cases h.2.1)⟩, fun w a cap smp _ => (specQuit_no1 cap hp hh smp).mono fun e w' k => Z k, fun w a cap smp _ => (implQuit_no2 cap hp hn smp).mono fun e w' k => Z k⟩
    · exact ⟨[], 0, 0, false, by decide, fun e => (by cases e), fun _ => ⟨rfl, rfl, rfl, fun h => (by cases h.2.1)⟩, fun w a cap smp _ => (specQuit_no2 cap hp hh hn smp).mono fun e w' k => Z k, fun w a cap smp _ => (implQuit_no2 cap hp hn smp).mono fun e w' k => Z k⟩
  cases hh : hasI id xs
  · exact ⟨[], 0, 0, false, by decide, fun e => (by cases e), fun _ => ⟨rfl, rfl, rfl, fun h => (by cases h.2.2)⟩, fun w a cap smp _ => (specQuit_no1 cap hp hh smp).mono fun e w' k => Z k, fun w a cap smp _ => (implQuit_no1 cap hp hn hh smp).mono fun e w' k => Z k⟩
  · exact ⟨delI xs id, wd, max 0 (fl - n), true, by have := delI_lt hh; omega, fun _ => ⟨rfl, rfl, rfl, rfl, rfl, rfl⟩, fun e => (by cases e), fun w a cap smp _ => specQuit_yes cap hp hh hn smp, fun w a cap smp _ => implQuit_yes cap hp hn hh smp⟩
end Go.Proofs.Ytoeiheccmpjclaf
