/- What Push answers, impl's and spec's, at every argument. -/
import Derived.Test.YtiibafphgjlffapImplPush
namespace Go.Proofs.Ytiibafphgjlffap
open Go.ChangeShapes Go.WideShapes Go.ChangeAt Go.RowKit
set_option maxRecDepth 100000
set_option linter.unusedVariables false

theorem not_push {most : Bool} {xs : List (Int × Int)} {p q win : Int} (hP : ¬ PushOk most xs (p, q) win) : (¬ FOk most xs) ∨ (FOk most xs ∧ smpB (p, q) = false) ∨ (FOk most xs ∧ smpB (p, q) = true ∧ timeB win = false) ∨ (FOk most xs ∧ smpB (p, q) = true ∧ timeB win = true ∧ p < lastAt xs) := by
  by_cases h1 : FOk most xs
  · cases h2 : smpB (p, q)
    · exact .inr (.inl ⟨h1, rfl⟩)
    · cases h3 : timeB win
      · exact .inr (.inr (.inl ⟨h1, rfl, rfl⟩))
      · refine .inr (.inr (.inr ⟨h1, rfl, rfl, ?_⟩))
        rcases Int.lt_or_le p (lastAt xs) with h | h
        · exact h
        · exact absurd ⟨h1, h2, h3, h⟩ hP
  · exact .inl h1
end Go.Proofs.Ytiibafphgjlffap
