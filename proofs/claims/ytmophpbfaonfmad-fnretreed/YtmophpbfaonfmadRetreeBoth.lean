/- Retree's two answers at once. -/
import Derived.Test.YtmophpbfaonfmadSpecRetree
namespace Go.Proofs.Ytmophpbfaonfmad
open Go.ChangeShapes Go.WideShapes Go.ChangeAt Go.RowKit
set_option maxRecDepth 100000
set_option linter.unusedVariables false

theorem ret_lengths (T O P S : List Q4) (now : Int) : (retT T O P S now).length ≤ 30 ∧ (retO T O P S now).length ≤ 30 ∧ (retP T O P S now).length ≤ 30 := by
  unfold retT retO retP
  cases hm : movB T O P S now
  · exact ⟨by simp, by simp, by simp⟩
  · have h := hm
    unfold movB at h
    rw [Bool.and_eq_true, Bool.and_eq_true, Bool.and_eq_true] at h
    have hd := lend_of h.1.1.1
    have h30 := (tree_of (of_decide_eq_true h.1.1.2)).l1
    have hls := of_decide_eq_true h.1.2
    simp only [if_true]
    exact ⟨h30, by rw [movO_length (hd.lo.trans hls.symm)]; exact h30, by rw [movP_length (hd.lp.trans hls.symm)]; exact h30⟩
theorem retrees (T O P S : List Q4) (now : Int) : ∃ (YT YO YP : List Q4) (f : Bool), (YT.length ≤ 30 ∧ YO.length ≤ 30 ∧ YP.length ≤ 30) ∧
    (∀ (w : World) (aT aO aP aS : Option Addr) (cT cO cP cS : Nat), Quad w.heap.size w aT T → Quad w.heap.size w aO O → Quad w.heap.size w aP P → Quad w.heap.size w aS S → Calls Try.prog 17 #[lendV aT T.length cT aO O.length cO aP P.length cP, .slice aS S.length cS, .int .i64 now] w (NewPost w YT YO YP f)) ∧
    (∀ (w : World) (aT aO aP aS : Option Addr) (cT cO cP cS : Nat), Quad w.heap.size w aT T → Quad w.heap.size w aO O → Quad w.heap.size w aP P → Quad w.heap.size w aS S → Calls Try.prog 16 #[lendV aT T.length cT aO O.length cO aP P.length cP, .slice aS S.length cS, .int .i64 now] w (NewPost w YT YO YP f)) :=
  ⟨_, _, _, _, ret_lengths T O P S now, fun w aT aO aP aS cT cO cP cS h1 h2 h3 h4 => specRetree_any cT cO cP cS now h1 h2 h3 h4, fun w aT aO aP aS cT cO cP cS h1 h2 h3 h4 => iRetree_any cT cO cP cS now h1 h2 h3 h4⟩
end Go.Proofs.Ytmophpbfaonfmad
