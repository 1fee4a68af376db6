/- Both sides of Claim and Free: one list, one Place's numbers. -/
import Derived.Test.YtoeiheccmpjclafImplPlc2
namespace Go.Proofs.Ytoeiheccmpjclaf
open Go.ChangeShapes Go.WideShapes Go.ChangeAt Go.RowKit
set_option maxRecDepth 100000
set_option linter.unusedVariables false
set_option linter.unusedSimpArgs false

theorem ansP_zero {w : World} {e : Ending} {w' : World} (h : e = .returned (.agg #[.int .i64 0, .int .i64 0, .slice none 0 0]) ∧ Below w.heap.size w w') : AnsP w [] 0 0 e w' := ⟨none, 0, 0, h.1, .inr ⟨rfl, rfl⟩, h.2⟩
theorem ansPT_zero {w : World} {e : Ending} {w' : World} (h : e = .returned (.tuple #[.agg #[.int .i64 0, .int .i64 0, .slice none 0 0], .bool false]) ∧ Below w.heap.size w w') : AnsPT w [] 0 0 false e w' := ⟨none, 0, 0, h.1, .inr ⟨rfl, rfl⟩, h.2⟩
theorem claims (wd fl n : Int) (xs : List Int) : ∃ (ys : List Int) (zd zf : Int) (zb : Bool), ys.length ≤ 1048576 ∧
    (∀ (w : World) (a : Option Addr) (cap : Nat), ISmp w.heap.size w a xs → Calls Try.prog 26 #[.agg #[.int .i64 wd, .int .i64 fl, .slice a xs.length cap], .int .i64 n] w (AnsPT w ys zd zf zb)) ∧
    (∀ (w : World) (a : Option Addr) (cap : Nat), ISmp w.heap.size w a xs → Calls Try.prog 25 #[.agg #[.int .i64 wd, .int .i64 fl, .slice a xs.length cap], .int .i64 n] w (AnsPT w ys zd zf zb)) := by
  cases hr : roomB wd fl n xs
  · exact ⟨[], 0, 0, false, by decide, fun w a cap smp => (specClaim_no cap hr smp).mono fun e w' k => ansPT_zero k, fun w a cap smp => (implClaim_no cap hr smp).mono fun e w' k => ansPT_zero k⟩
  · have hl := (pl_num (room_num hr).1).2.2
    exact ⟨xs, wd, fl + n, true, by omega, fun w a cap smp => specClaim_yes cap hr smp, fun w a cap smp => implClaim_yes cap hr smp⟩
theorem frees (wd fl n : Int) (lost : Bool) (xs : List Int) : ∃ (ys : List Int) (zd zf : Int), ys.length ≤ 1048576 ∧
    (∀ (w : World) (a : Option Addr) (cap : Nat), ISmp w.heap.size w a xs → Calls Try.prog 30 #[.agg #[.int .i64 wd, .int .i64 fl, .slice a xs.length cap], .int .i64 n, .bool lost] w (AnsP w ys zd zf)) ∧
    (∀ (w : World) (a : Option Addr) (cap : Nat), ISmp w.heap.size w a xs → Calls Try.prog 29 #[.agg #[.int .i64 wd, .int .i64 fl, .slice a xs.length cap], .int .i64 n, .bool lost] w (AnsP w ys zd zf)) := by
  cases hp : plB wd fl xs
  · exact ⟨[], 0, 0, by decide, fun w a cap smp => (specFree_no0 cap hp smp).mono fun e w' k => ansP_zero k, fun w a cap smp => (implFree_no0 cap hp smp).mono fun e w' k => ansP_zero k⟩
  cases hn : inQ 1 n 1000000000
  · exact ⟨[], 0, 0, by decide, fun w a cap smp => (specFree_no1 cap hp hn smp).mono fun e w' k => ansP_zero k, fun w a cap smp => (implFree_no1 cap hp hn smp).mono fun e w' k => ansP_zero k⟩
  have hl := (pl_num hp).2.2
  exact ⟨xs, _, _, by omega, fun w a cap smp => specFree_yes cap hp hn smp, fun w a cap smp => implFree_yes cap hp hn smp⟩
end Go.Proofs.Ytoeiheccmpjclaf
