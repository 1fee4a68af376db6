/- The draws of a Lend: spec.l4DrawNow. -/
import Derived.Test.YtdgefdjgpneanadDraw7c
import Derived.Test.YtdgefdjgpneanadDraw4c
namespace Go.Proofs.Ytdgefdjgpneanad
open Go.ChangeShapes Go.WideShapes Go.ChangeAt Go.RowKit
set_option maxRecDepth 100000
set_option linter.unusedVariables false
set_option linter.unusedSimpArgs false

set_option maxHeartbeats 1000000 in
theorem drawNow_acc {B : Nat} {a0 : Option Addr} {len cap b : Nat} {w0 w : World} (at' : Int) (c : Cur B a0 len cap b w) (o : Only b w0 w) :
    Calls Try.prog 98 #[.pointer (some ⟨b, 0, none⟩), .int .i64 at'] w fun e w' => ∃ x : Int, e = .returned (.int .i64 x) ∧ Cur B a0 len cap b w' ∧ Only b w0 w' := by
  go_enter Try.func98, Try.ntmps98
  go_wp2_with (first
    | (go_at_call 61; refine (once_acc _ c o (by omega) (by omega)).mono ?_; rintro e w2 ⟨f, rfl, c2, o2⟩; cases f)
    | (go_at_call 70; refine (drawTime_acc c2 o2).mono ?_; rintro e w3 ⟨x3, rfl, _, c3, o3⟩)
    | (go_at_call 62; have gq := c3; refine (below_acc _ c3 o3 (by omega) (by omega)).mono ?_; rintro e w4 ⟨x4, rfl, hx4, c4, o4⟩)
    | (go_at_call 62; refine (below_acc _ c2 o2 (by omega) (by omega)).mono ?_; rintro e w3 ⟨x3, rfl, hx3, c3, o3⟩))
  all_goals go_ret
  all_goals first | exact ⟨_, rfl, c4, o4⟩ | exact ⟨_, rfl, c3, o3⟩
end Go.Proofs.Ytdgefdjgpneanad
