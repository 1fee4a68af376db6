/- Lemmas on the way, of several texts: CubBoth. -/
import Derived.Test.YtkohlmloobojfaaGreatGrpAM
import Derived.Test.YtkohlmloobojfaaGreatGrpAD
import Derived.Test.YtkohlmloobojfaaGreatRows
import Derived.Conc.MuLib
import Derived.Conc.MuLone
import Derived.WalkKit
import Derived.ProofKit
import Derived.KernelRfl
import Derived.Test.YtkohlmloobojfaaGreatGrpAE
import Derived.Maps.OwnSet
import Derived.Maps.OwnOps
import Derived.WalkSpells
import Derived.Test.YtkohlmloobojfaaGreatGrpAR
import Derived.Handy
import Derived.Deep.Cut
import Derived.Laws.Cover1
import Derived.Stop.Asserts
namespace Go.Proofs.YtkohlmloobojfaaGreat
open Go.ChangeShapes Go.WideShapes Go.ChangeAt Go.RowKit
set_option maxRecDepth 100000
set_option linter.unusedVariables false

def downC (k wn th fl ac la og st fr : Int) (sl : Bool) : C10 := if ccB k wn th fl ac la og st fr = true then ⟨k, tenW wn, tenW wn, fl, 0, lastW wn la, 0, 0, 0, false⟩ else zeroC
def cubIn (k wn th fl ac la og st fr : Int) (sl : Bool) (n now : Int) : C10 := if sl = true ∧ wn < th then (if wn + n < th then ⟨k, wn + n, th, max 0 (fl - n), ac, la, og, st, fr, true⟩ else ⟨k, th, th, max 0 (fl - n), ac, la, og, st, fr, false⟩) else if st = 0 then ⟨k, wnW wn (frW wn wn n) (tgW wn (max la wn) wn (msOf (max 1 now) now)), th, max 0 (fl - n), ac, max la wn, wn, max 1 now, frW wn wn n, sl⟩ else ⟨k, wnW wn (frW wn fr n) (tgW wn la og (msOf st now)), th, max 0 (fl - n), ac, la, og, st, frW wn fr n, sl⟩
def cubC (k wn th fl ac la og st fr : Int) (sl : Bool) (n now : Int) : C10 := if (ccB k wn th fl ac la og st fr = true ∧ n10B n = true) ∧ timeB now = true then cubIn k wn th fl ac la og st fr sl n now else zeroC
theorem specCubicLoss_any (k wn th fl ac la og st fr : Int) (sl : Bool) (w : World) : Calls Tryz.prog 57 #[.agg #[.int .i64 k, .int .i64 wn, .int .i64 th, .int .i64 fl, .int .i64 ac, .int .i64 la, .int .i64 og, .int .i64 st, .int .i64 fr, .bool sl]] w fun e w' => e = .returned (.agg #[.int .i64 ((downC k wn th fl ac la og st fr sl).k), .int .i64 ((downC k wn th fl ac la og st fr sl).wn), .int .i64 ((downC k wn th fl ac la og st fr sl).th), .int .i64 ((downC k wn th fl ac la og st fr sl).fl), .int .i64 ((downC k wn th fl ac la og st fr sl).ac), .int .i64 ((downC k wn th fl ac la og st fr sl).la), .int .i64 ((downC k wn th fl ac la og st fr sl).og), .int .i64 ((downC k wn th fl ac la og st fr sl).st), .int .i64 ((downC k wn th fl ac la og st fr sl).fr), .bool (downC k wn th fl ac la og st fr sl).sl]) ∧ Below w.heap.size w w' := by
  cases h1 : ccB k wn th fl ac la og st fr
  · rw [show downC k wn th fl ac la og st fr sl = zeroC from if_neg (by rw [h1]; decide)]
    exact specCubicLoss_no sl w h1
  · rw [show downC k wn th fl ac la og st fr sl = ⟨k, tenW wn, tenW wn, fl, 0, lastW wn la, 0, 0, 0, false⟩ from if_pos h1]
    exact specCubicLoss_yes sl w h1
theorem implCubicLoss_any (k wn th fl ac la og st fr : Int) (sl : Bool) (w : World) : Calls Tryz.prog 158 #[.agg #[.int .i64 k, .int .i64 wn, .int .i64 th, .int .i64 fl, .int .i64 ac, .int .i64 la, .int .i64 og, .int .i64 st, .int .i64 fr, .bool sl]] w fun e w' => e = .returned (.agg #[.int .i64 ((downC k wn th fl ac la og st fr sl).k), .int .i64 ((downC k wn th fl ac la og st fr sl).wn), .int .i64 ((downC k wn th fl ac la og st fr sl).th), .int .i64 ((downC k wn th fl ac la og st fr sl).fl), .int .i64 ((downC k wn th fl ac la og st fr sl).ac), .int .i64 ((downC k wn th fl ac la og st fr sl).la), .int .i64 ((downC k wn th fl ac la og st fr sl).og), .int .i64 ((downC k wn th fl ac la og st fr sl).st), .int .i64 ((downC k wn th fl ac la og st fr sl).fr), .bool (downC k wn th fl ac la og st fr sl).sl]) ∧ Below w.heap.size w w' := by
  cases h1 : ccB k wn th fl ac la og st fr
  · rw [show downC k wn th fl ac la og st fr sl = zeroC from if_neg (by rw [h1]; decide)]
    exact implCubicLoss_no sl w h1
  · rw [show downC k wn th fl ac la og st fr sl = ⟨k, tenW wn, tenW wn, fl, 0, lastW wn la, 0, 0, 0, false⟩ from if_pos h1]
    exact implCubicLoss_yes sl w h1
end Go.Proofs.YtkohlmloobojfaaGreat
