/- What impl.Ask answers. -/
import Derived.Test.YtmophpbfaonfmacImplLender
import Derived.Test.YtmophpbfaonfmacImplNew
namespace Go.Proofs.Ytmophpbfaonfmac
open Go.ChangeShapes Go.WideShapes Go.ChangeAt Go.RowKit
set_option maxRecDepth 100000
set_option linter.unusedVariables false
set_option linter.unusedSimpArgs false

theorem told_mov (T O P : List Q4) (leaf now n : Int) : toldB T O P leaf now n = (movB T O P T now && ((hasB T leaf && leafB T leaf) && segB n)) := by
  cases hl : lendB T O P
  · rw [mov_no1 hl]
    unfold toldB
    rw [hl]
    rfl
  · have hd := lend_of hl
    have ht := now_time (now := now) hd
    unfold toldB movB hasB
    rw [hl, decide_eq_true hd.code, decide_eq_true (rfl : T.length = T.length), ← ht]
    generalize (decide (0 ≤ leaf) && decide (leaf ≤ (T.length : Int) - 1)) = a1
    generalize leafB T leaf = a2
    generalize timeB now = a3
    generalize decide (atOf O ≤ now) = a4
    generalize segB n = a5
    cases a1 <;> cases a2 <;> cases a3 <;> cases a4 <;> cases a5 <;> rfl
/-- What is needed of a Lend that is told. -/
theorem told_parts {T O P : List Q4} {leaf now n : Int} (h : toldB T O P leaf now n = true) : movB T O P T now = true ∧ hasB T leaf = true ∧ leafB T leaf = true ∧ segB n = true := by
  rw [told_mov] at h
  simp only [Bool.and_eq_true] at h
  exact ⟨h.1, h.2.1.1, h.2.1.2, h.2.2⟩
theorem path_nat {T : List Q4} {leaf : Int} (hh : hasB T leaf = true) : ∀ x ∈ pathOf T leaf, 0 ≤ x := by
  obtain ⟨ht, i0, i1⟩ := has_tree hh
  exact fun x hx => (path_mem ht.sound.well T.length leaf i1 (by omega) x hx).1
end Go.Proofs.Ytmophpbfaonfmac
