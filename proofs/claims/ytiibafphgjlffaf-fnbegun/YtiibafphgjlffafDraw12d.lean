/- The draw of a time. -/
import Derived.Test.YtiibafphgjlffafDraws1
namespace Go.Proofs.Ytiibafphgjlffaf
open Go.ChangeShapes Go.WideShapes Go.ChangeAt Go.RowKit
set_option maxRecDepth 100000
set_option linter.unusedVariables false
set_option linter.unusedSimpArgs false

theorem drawNewProbe_any {B : Nat} {a0 : Option Addr} {len : Nat} (cap : Nat) {w : World} (hs : len ≤ 4096) (row : Row B a0 len w) (hB : B ≤ w.heap.size) :
    Calls Try.prog 5 #[.slice a0 len cap] w fun e w' => ∃ x : Int, e = .returned (.int .i64 x) ∧ I64 x ∧ Below w.heap.size w w' := by
  go_enter Try.func5, Try.ntmps5
  go_wp2_with (first
    | (go_at_call 13; refine (new_any cap hs row hB).mono ?_; rintro e w1 ⟨b, rfl, hb, c, hb1⟩; have o := Only.refl b w1)
    | (go_at_call 14; refine (drawTime_acc (by assumption) (by assumption)).mono ?_; rintro e w2 ⟨time, rfl, htime, c, o⟩))
  go_ret
  exact ⟨_, rfl, htime, hb1.trans (o.below hb hb1.size)⟩
end Go.Proofs.Ytiibafphgjlffaf
