import Derived.Test.YthiojkjcmhojoaaGreatGtAG
import Derived.Sort.Grow
import Derived.Deep.RegionHeld3
import Derived.Deep.DeepCutAuto
namespace Go.Proofs.YthiojkjcmhojoaaGreat
open Go.ChangeShapes Go.WideShapes Go.ChangeAt Go.RowKit Go.Sort
set_option linter.all false
set_option maxRecDepth 100000
def zsv(x y:Int):Int:=if x<y then -1 else if y<x then 1 else 0
theorem cmp_lt{x y:Int}(h:x<y):zsv x y = -1:=if_pos h
theorem cmp_gt{x y:Int}(h:y<x):zsv x y=1:=by unfold zsv;rw[if_neg (by omega),if_pos h]
theorem cmp_eq(x:Int):zsv x x=0:=by unfold zsv;rw[if_neg (by omega),if_neg (by omega)]
theorem zmk(x:Int)(w:World):Calls Tryz.prog 148 #[.int .i64 x] w fun e w'=>e=.returned (.bool false)/\w'=w:=by go_enter Tryz.func148,Tryz.ntmps148;go_wp2;go_ret;exact⟨rfl,rfl⟩
theorem zsw(x y:Int)(w:World):Calls Tryz.prog 108 #[.int .i64 x,.int .i64 y] w fun e w'=>e=.returned (.int .i64 (zsv x y))/\w'=w:=by
 rcases Int.lt_trichotomy x y with h|h|h
 ·rw[cmp_lt h];go_enter Tryz.func108,Tryz.ntmps108;go_wp2_with (go_at_call 148;refine same1 (zmk _ _) ?_);go_ret;exact⟨rfl,rfl⟩
 ·subst h;rw[cmp_eq];go_enter Tryz.func108,Tryz.ntmps108;go_wp2_with (go_at_call 148;refine same1 (zmk _ _) ?_);go_ret;exact⟨rfl,rfl⟩
 ·rw[cmp_gt h];have h':¬x<y:=(by omega);go_enter Tryz.func108,Tryz.ntmps108;go_wp2_with (go_at_call 148;refine same1 (zmk _ _) ?_);go_ret;exact⟨rfl,rfl⟩
end Go.Proofs.YthiojkjcmhojoaaGreat
