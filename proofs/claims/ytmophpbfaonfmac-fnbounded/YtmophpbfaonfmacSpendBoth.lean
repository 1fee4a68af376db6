/- Spend's two answers at once. -/
import Derived.Test.YtmophpbfaonfmacImplSpend
namespace Go.Proofs.Ytmophpbfaonfmac
open Go.ChangeShapes Go.WideShapes Go.ChangeAt Go.RowKit
set_option maxRecDepth 100000
set_option linter.unusedVariables false

theorem spend_lengths (T O P : List Q4) (leaf now n : Int) : (spendT T O P leaf now n).length ≤ 30 ∧ (spendO T O P leaf now n).length ≤ 30 ∧ (spendP T O P leaf now n).length ≤ 30 := by
  unfold spendT spendO spendP
  cases ht : toldB T O P leaf now n
  · exact ⟨by simp, by simp, by simp⟩
  · have hd := (told_of ht).lend
    have h30 := hd.tree.l1
    have lO := hd.lo
    have lP := hd.lp
    simp only [if_true]
    refine ⟨h30, ?_, ?_⟩
    · split
      · rw [fills_length]; omega
      · rw [ownTo_length, fills_length]; omega
    · split
      · rw [fills_length]; omega
      · rw [topTo_length, fills_length]; omega
theorem spends (T O P : List Q4) (leaf now n : Int) : ∃ (YT YO YP : List Q4) (f : Bool), (YT.length ≤ 30 ∧ YO.length ≤ 30 ∧ YP.length ≤ 30) ∧
    (∀ (w : World) (aT aO aP : Option Addr) (cT cO cP : Nat), Quad w.heap.size w aT T → Quad w.heap.size w aO O → Quad w.heap.size w aP P → Calls Try.prog 45 #[lendV aT T.length cT aO O.length cO aP P.length cP, .int .i64 leaf, .int .i64 now, .int .i64 n] w (NewPost w YT YO YP f)) ∧
    (∀ (w : World) (aT aO aP : Option Addr) (cT cO cP : Nat), Quad w.heap.size w aT T → Quad w.heap.size w aO O → Quad w.heap.size w aP P → Calls Try.prog 44 #[lendV aT T.length cT aO O.length cO aP P.length cP, .int .i64 leaf, .int .i64 now, .int .i64 n] w (NewPost w YT YO YP f)) :=
  ⟨_, _, _, _, spend_lengths T O P leaf now n, fun w aT aO aP cT cO cP h1 h2 h3 => specSpend_any cT cO cP leaf now n h1 h2 h3, fun w aT aO aP cT cO cP h1 h2 h3 => iSpend_any cT cO cP leaf now n h1 h2 h3⟩
end Go.Proofs.Ytmophpbfaonfmac
