/- NewLend's two answers at once. -/
import Derived.Test.YtcepopboldnicalImplNew
namespace Go.Proofs.Ytcepopboldnical
open Go.ChangeShapes Go.WideShapes Go.ChangeAt Go.RowKit
set_option maxRecDepth 100000
set_option linter.unusedVariables false

theorem newlends (T : List Q4) (at' : Int) : ∃ (YT YO YP : List Q4) (f : Bool), (YT.length ≤ 30 ∧ YO.length ≤ 30 ∧ YP.length ≤ 30) ∧
    (∀ (w : World) (aT : Option Addr) (cT : Nat), Quad w.heap.size w aT T → Calls Try.prog 24 #[.slice aT T.length cT, .int .i64 at'] w (NewPost w YT YO YP f)) ∧
    (∀ (w : World) (aT : Option Addr) (cT : Nat), Quad w.heap.size w aT T → Calls Try.prog 25 #[.slice aT T.length cT, .int .i64 at'] w (NewPost w YT YO YP f)) := by
  refine ⟨newT T at', newO T at', newP T at', newB T at', ?_, fun w aT cT h => specNewLend_any cT at' h, fun w aT cT h => iNewLend_any cT at' h⟩
  unfold newT newO newP
  cases hn : newB T at'
  · exact ⟨by simp, by simp, by simp⟩
  · unfold newB at hn
    rw [Bool.and_eq_true] at hn
    have h30 := (tree_of (of_decide_eq_true hn.1)).l1
    simp only [if_true, List.length_map]
    exact ⟨h30, h30, h30⟩
end Go.Proofs.Ytcepopboldnical
