/- Proved: at every number impl.NewProbe answers as spec.NewProbe does, and its answer owns its memory (the law FnExactNewProbe returns true); no condition. -/
import Derived.Test.YtiibafphgjlffaqRows
import Derived.WalkKit
import Derived.ProofKit
import Derived.OpenShut
import Derived.ShutString
import Derived.Test.YtiibafphgjlffaqImplProbe
import Derived.Test.YtiibafphgjlffaqPrbVar
import Derived.Test.YtiibafphgjlffaqPrbTo
namespace Go.Proofs.Ytiibafphgjlffaq.fnExactNewProbe
open Go.ChangeShapes Go.WideShapes Go.ChangeAt Go.RowKit
open Go.ChangeMaps (open_string shut_string)
set_option linter.unusedVariables false      -- a walk need not use every 'w<i>' (that an integer argument fits its kind)

theorem own : ownKnob Try.prog.godebug = none := by kernel_rfl

set_option linter.unusedSimpArgs false
set_option linter.unusedVariables false
set_option maxRecDepth 100000

/-! ### STEP 1: THE WALK: the Go text returns true. 'Grown w w'': the world has at most new blocks (Derived/RowKit3.lean). Part the cases AHEAD of 'go_enter' where a test parts the walk; take each callee by a contract of your own. -/
theorem walk (a0 : Int) (w0 : (Lit.int .i64 a0).wf = true) (w : World) :
    Calls Try.prog 3 #[.int .i64 a0] w fun e w' => e = .returned (.bool true) ∧ Below w.heap.size w w' := by
  cases hT : timeB a0
  · go_enter Try.func3, Try.ntmps3
    go_upto_region 2 with (first
      | (go_at_call 9; refine (specNewProbe_no _ hT).mono ?_; rintro e v1 ⟨rfl, hb1⟩; have hbw : Below w.heap.size w v1 := hb1))
    obtain ⟨v2, hv2⟩ : ∃ x, x = v1.alloc (.cells #[.int .i64 0, .int .i64 0, .int .i64 0, .int .i64 0, .int .i64 0, .slice none 0 0, .int .i64 0, .int .i64 0] 26) := ⟨_, rfl⟩
    obtain ⟨b3, eb3⟩ : ∃ b, b = v1.heap.size := ⟨_, rfl⟩
    rw [← hv2, ← eb3]
    have yb3 : v1.heap.size ≤ b3 := by omega
    have ub3 : b3 < v2.heap.size := by rw [hv2, eb3]; simp
    have kv2 : Below v1.heap.size v1 v2 := by rw [hv2]; exact new_below _ _
    have DA : Hid (Pc v2 (b3) (⟨0, 0, 0, 0, 0, 0, 0⟩ : Pb) (.slice none 0 0)) := by rw [hv2, eb3]; exact pc_new _ (⟨0, 0, 0, 0, 0, 0, 0⟩ : Pb) _ _
    clear hv2 eb3
    have hbw : Below w.heap.size w v2 := below_two hbw kv2
    have q0 : v2.cell? ⟨b3, 0, none⟩ = some (.int .i64 0) := DA.out.c0
    have q1 : v2.cell? ⟨b3, 1, none⟩ = some (.int .i64 0) := DA.out.c1
    have q2 : v2.cell? ⟨b3, 2, none⟩ = some (.int .i64 0) := DA.out.c2
    have q3 : v2.cell? ⟨b3, 3, none⟩ = some (.int .i64 0) := DA.out.c3
    have q4 : v2.cell? ⟨b3, 4, none⟩ = some (.int .i64 0) := DA.out.c4
    have q5 : v2.cell? ⟨b3, 5, none⟩ = some (.slice none 0 0) := DA.out.c5
    have q6 : v2.cell? ⟨b3, 6, none⟩ = some (.int .i64 0) := DA.out.c6
    have q7 : v2.cell? ⟨b3, 7, none⟩ = some (.int .i64 0) := DA.out.c7
    go_upto_region 3 with (first
      | (go_at_call 10; refine (implNewProbe_no _ hT).mono ?_; rintro e v3 ⟨rfl, hb3⟩; have hbw : Below w.heap.size w v3 := below_two hbw hb3; clear q0 q1 q2 q3 q4 q5 q6 q7; have DA : Hid (Pc v3 (b3) (⟨0, 0, 0, 0, 0, 0, 0⟩ : Pb) (.slice none 0 0)) := DA.out.next hb3; have q0 : v3.cell? ⟨b3, 0, none⟩ = some (.int .i64 0) := DA.out.c0; have q1 : v3.cell? ⟨b3, 1, none⟩ = some (.int .i64 0) := DA.out.c1; have q2 : v3.cell? ⟨b3, 2, none⟩ = some (.int .i64 0) := DA.out.c2; have q3 : v3.cell? ⟨b3, 3, none⟩ = some (.int .i64 0) := DA.out.c3; have q4 : v3.cell? ⟨b3, 4, none⟩ = some (.int .i64 0) := DA.out.c4; have q5 : v3.cell? ⟨b3, 5, none⟩ = some (.slice none 0 0) := DA.out.c5; have q6 : v3.cell? ⟨b3, 6, none⟩ = some (.int .i64 0) := DA.out.c6; have q7 : v3.cell? ⟨b3, 7, none⟩ = some (.int .i64 0) := DA.out.c7))
    obtain ⟨v4, hv4⟩ : ∃ x, x = v3.alloc (.cells #[.int .i64 0, .int .i64 0, .int .i64 0, .int .i64 0, .int .i64 0, .slice none 0 0, .int .i64 0, .int .i64 0] 26) := ⟨_, rfl⟩
    obtain ⟨b5, eb5⟩ : ∃ b, b = v3.heap.size := ⟨_, rfl⟩
    rw [← hv4, ← eb5]
    have yb5 : v3.heap.size ≤ b5 := by omega
    have ub5 : b5 < v4.heap.size := by rw [hv4, eb5]; simp
    have kv4 : Below v3.heap.size v3 v4 := by rw [hv4]; exact new_below _ _
    have DG : Hid (Pc v4 (b5) (⟨0, 0, 0, 0, 0, 0, 0⟩ : Pb) (.slice none 0 0)) := by rw [hv4, eb5]; exact pc_new _ (⟨0, 0, 0, 0, 0, 0, 0⟩ : Pb) _ _
    clear hv4 eb5
    have hbw : Below w.heap.size w v4 := below_two hbw kv4; clear q0 q1 q2 q3 q4 q5 q6 q7
    have DA : Hid (Pc v4 (b3) (⟨0, 0, 0, 0, 0, 0, 0⟩ : Pb) (.slice none 0 0)) := DA.out.next kv4
    have q0 : v4.cell? ⟨b3, 0, none⟩ = some (.int .i64 0) := DA.out.c0
    have q1 : v4.cell? ⟨b3, 1, none⟩ = some (.int .i64 0) := DA.out.c1
    have q2 : v4.cell? ⟨b3, 2, none⟩ = some (.int .i64 0) := DA.out.c2
    have q3 : v4.cell? ⟨b3, 3, none⟩ = some (.int .i64 0) := DA.out.c3
    have q4 : v4.cell? ⟨b3, 4, none⟩ = some (.int .i64 0) := DA.out.c4
    have q5 : v4.cell? ⟨b3, 5, none⟩ = some (.slice none 0 0) := DA.out.c5
    have q6 : v4.cell? ⟨b3, 6, none⟩ = some (.int .i64 0) := DA.out.c6
    have q7 : v4.cell? ⟨b3, 7, none⟩ = some (.int .i64 0) := DA.out.c7
    have g0 : v4.cell? ⟨b5, 0, none⟩ = some (.int .i64 0) := DG.out.c0
    have g1 : v4.cell? ⟨b5, 1, none⟩ = some (.int .i64 0) := DG.out.c1
    have g2 : v4.cell? ⟨b5, 2, none⟩ = some (.int .i64 0) := DG.out.c2
    have g3 : v4.cell? ⟨b5, 3, none⟩ = some (.int .i64 0) := DG.out.c3
    have g4 : v4.cell? ⟨b5, 4, none⟩ = some (.int .i64 0) := DG.out.c4
    have g5 : v4.cell? ⟨b5, 5, none⟩ = some (.slice none 0 0) := DG.out.c5
    have g6 : v4.cell? ⟨b5, 6, none⟩ = some (.int .i64 0) := DG.out.c6
    have g7 : v4.cell? ⟨b5, 7, none⟩ = some (.int .i64 0) := DG.out.c7
    go_upto_region 5 with (first
      | (go_at_call 11; refine (eqProbe_same (show FV _ 0 (.slice none 0 0) [] from .inr ⟨rfl, rfl⟩) (show FV _ 0 (.slice none 0 0) [] from .inr ⟨rfl, rfl⟩) (by decide)).mono ?_; rintro e v5 ⟨rfl, hb5⟩; have hbw : Below w.heap.size w v5 := below_two hbw hb5; clear q0 q1 q2 q3 q4 q5 q6 q7; have DA : Hid (Pc v5 (b3) (⟨0, 0, 0, 0, 0, 0, 0⟩ : Pb) (.slice none 0 0)) := DA.out.next hb5; have q0 : v5.cell? ⟨b3, 0, none⟩ = some (.int .i64 0) := DA.out.c0; have q1 : v5.cell? ⟨b3, 1, none⟩ = some (.int .i64 0) := DA.out.c1; have q2 : v5.cell? ⟨b3, 2, none⟩ = some (.int .i64 0) := DA.out.c2; have q3 : v5.cell? ⟨b3, 3, none⟩ = some (.int .i64 0) := DA.out.c3; have q4 : v5.cell? ⟨b3, 4, none⟩ = some (.int .i64 0) := DA.out.c4; have q5 : v5.cell? ⟨b3, 5, none⟩ = some (.slice none 0 0) := DA.out.c5; have q6 : v5.cell? ⟨b3, 6, none⟩ = some (.int .i64 0) := DA.out.c6; have q7 : v5.cell? ⟨b3, 7, none⟩ = some (.int .i64 0) := DA.out.c7; clear g0 g1 g2 g3 g4 g5 g6 g7; have DG : Hid (Pc v5 (b5) (⟨0, 0, 0, 0, 0, 0, 0⟩ : Pb) (.slice none 0 0)) := DG.out.next hb5; have g0 : v5.cell? ⟨b5, 0, none⟩ = some (.int .i64 0) := DG.out.c0; have g1 : v5.cell? ⟨b5, 1, none⟩ = some (.int .i64 0) := DG.out.c1; have g2 : v5.cell? ⟨b5, 2, none⟩ = some (.int .i64 0) := DG.out.c2; have g3 : v5.cell? ⟨b5, 3, none⟩ = some (.int .i64 0) := DG.out.c3; have g4 : v5.cell? ⟨b5, 4, none⟩ = some (.int .i64 0) := DG.out.c4; have g5 : v5.cell? ⟨b5, 5, none⟩ = some (.slice none 0 0) := DG.out.c5; have g6 : v5.cell? ⟨b5, 6, none⟩ = some (.int .i64 0) := DG.out.c6; have g7 : v5.cell? ⟨b5, 7, none⟩ = some (.int .i64 0) := DG.out.c7))
    go_upto_region 7 with (first
      | (go_at_call 12; refine (markProbe_any 1 (show FV _ 0 (.slice none 0 0) [] from .inr ⟨rfl, rfl⟩) (by decide) (by decide) (by decide)).mono ?_; rintro e v6 ⟨rfl, fm, ho6⟩; have hbw := hbw.trans (ho6.below (fun g hg => (by cases hg)) hbw.size); clear q0 q1 q2 q3 q4 q5 q6 q7; have DA : Hid (Pc v6 (b3) (⟨0, 0, 0, 0, 0, 0, 0⟩ : Pb) (.slice none 0 0)) := DA.out.onlyO ho6 (fun e => (by cases e)); have q0 : v6.cell? ⟨b3, 0, none⟩ = some (.int .i64 0) := DA.out.c0; have q1 : v6.cell? ⟨b3, 1, none⟩ = some (.int .i64 0) := DA.out.c1; have q2 : v6.cell? ⟨b3, 2, none⟩ = some (.int .i64 0) := DA.out.c2; have q3 : v6.cell? ⟨b3, 3, none⟩ = some (.int .i64 0) := DA.out.c3; have q4 : v6.cell? ⟨b3, 4, none⟩ = some (.int .i64 0) := DA.out.c4; have q5 : v6.cell? ⟨b3, 5, none⟩ = some (.slice none 0 0) := DA.out.c5; have q6 : v6.cell? ⟨b3, 6, none⟩ = some (.int .i64 0) := DA.out.c6; have q7 : v6.cell? ⟨b3, 7, none⟩ = some (.int .i64 0) := DA.out.c7; clear g0 g1 g2 g3 g4 g5 g6 g7; have DG : Hid (Pc v6 (b5) (⟨0, 0, 0, 0, 0, 0, 0⟩ : Pb) (.slice none 0 0)) := DG.out.onlyO ho6 (fun e => (by cases e)); have g0 : v6.cell? ⟨b5, 0, none⟩ = some (.int .i64 0) := DG.out.c0; have g1 : v6.cell? ⟨b5, 1, none⟩ = some (.int .i64 0) := DG.out.c1; have g2 : v6.cell? ⟨b5, 2, none⟩ = some (.int .i64 0) := DG.out.c2; have g3 : v6.cell? ⟨b5, 3, none⟩ = some (.int .i64 0) := DG.out.c3; have g4 : v6.cell? ⟨b5, 4, none⟩ = some (.int .i64 0) := DG.out.c4; have g5 : v6.cell? ⟨b5, 5, none⟩ = some (.slice none 0 0) := DG.out.c5; have g6 : v6.cell? ⟨b5, 6, none⟩ = some (.int .i64 0) := DG.out.c6; have g7 : v6.cell? ⟨b5, 7, none⟩ = some (.int .i64 0) := DG.out.c7))
    go_upto_region 13 with (first
      | (go_at_call 13; refine (heldProbe_any (m := 0) 1 (show FV _ 0 (.slice none 0 0) [] from .inr ⟨rfl, rfl⟩) (by decide) (by decide) (by decide)).mono ?_; rintro e v7 ⟨rfl, hb7⟩; have hbw : Below w.heap.size w v7 := below_two hbw hb7; clear q0 q1 q2 q3 q4 q5 q6 q7; have DA : Hid (Pc v7 (b3) (⟨0, 0, 0, 0, 0, 0, 0⟩ : Pb) (.slice none 0 0)) := DA.out.next hb7; have q0 : v7.cell? ⟨b3, 0, none⟩ = some (.int .i64 0) := DA.out.c0; have q1 : v7.cell? ⟨b3, 1, none⟩ = some (.int .i64 0) := DA.out.c1; have q2 : v7.cell? ⟨b3, 2, none⟩ = some (.int .i64 0) := DA.out.c2; have q3 : v7.cell? ⟨b3, 3, none⟩ = some (.int .i64 0) := DA.out.c3; have q4 : v7.cell? ⟨b3, 4, none⟩ = some (.int .i64 0) := DA.out.c4; have q5 : v7.cell? ⟨b3, 5, none⟩ = some (.slice none 0 0) := DA.out.c5; have q6 : v7.cell? ⟨b3, 6, none⟩ = some (.int .i64 0) := DA.out.c6; have q7 : v7.cell? ⟨b3, 7, none⟩ = some (.int .i64 0) := DA.out.c7; clear g0 g1 g2 g3 g4 g5 g6 g7; have DG : Hid (Pc v7 (b5) (⟨0, 0, 0, 0, 0, 0, 0⟩ : Pb) (.slice none 0 0)) := DG.out.next hb7; have g0 : v7.cell? ⟨b5, 0, none⟩ = some (.int .i64 0) := DG.out.c0; have g1 : v7.cell? ⟨b5, 1, none⟩ = some (.int .i64 0) := DG.out.c1; have g2 : v7.cell? ⟨b5, 2, none⟩ = some (.int .i64 0) := DG.out.c2; have g3 : v7.cell? ⟨b5, 3, none⟩ = some (.int .i64 0) := DG.out.c3; have g4 : v7.cell? ⟨b5, 4, none⟩ = some (.int .i64 0) := DG.out.c4; have g5 : v7.cell? ⟨b5, 5, none⟩ = some (.slice none 0 0) := DG.out.c5; have g6 : v7.cell? ⟨b5, 6, none⟩ = some (.int .i64 0) := DG.out.c6; have g7 : v7.cell? ⟨b5, 7, none⟩ = some (.int .i64 0) := DG.out.c7))
    go_upto_region 14 with (first
      | (go_at_call 10; refine (implNewProbe_no _ hT).mono ?_; rintro e v8 ⟨rfl, hb8⟩; have hbw : Below w.heap.size w v8 := below_two hbw hb8; clear q0 q1 q2 q3 q4 q5 q6 q7; have DA : Hid (Pc v8 (b3) (⟨0, 0, 0, 0, 0, 0, 0⟩ : Pb) (.slice none 0 0)) := DA.out.next hb8; have q0 : v8.cell? ⟨b3, 0, none⟩ = some (.int .i64 0) := DA.out.c0; have q1 : v8.cell? ⟨b3, 1, none⟩ = some (.int .i64 0) := DA.out.c1; have q2 : v8.cell? ⟨b3, 2, none⟩ = some (.int .i64 0) := DA.out.c2; have q3 : v8.cell? ⟨b3, 3, none⟩ = some (.int .i64 0) := DA.out.c3; have q4 : v8.cell? ⟨b3, 4, none⟩ = some (.int .i64 0) := DA.out.c4; have q5 : v8.cell? ⟨b3, 5, none⟩ = some (.slice none 0 0) := DA.out.c5; have q6 : v8.cell? ⟨b3, 6, none⟩ = some (.int .i64 0) := DA.out.c6; have q7 : v8.cell? ⟨b3, 7, none⟩ = some (.int .i64 0) := DA.out.c7; clear g0 g1 g2 g3 g4 g5 g6 g7; have DG : Hid (Pc v8 (b5) (⟨0, 0, 0, 0, 0, 0, 0⟩ : Pb) (.slice none 0 0)) := DG.out.next hb8; have g0 : v8.cell? ⟨b5, 0, none⟩ = some (.int .i64 0) := DG.out.c0; have g1 : v8.cell? ⟨b5, 1, none⟩ = some (.int .i64 0) := DG.out.c1; have g2 : v8.cell? ⟨b5, 2, none⟩ = some (.int .i64 0) := DG.out.c2; have g3 : v8.cell? ⟨b5, 3, none⟩ = some (.int .i64 0) := DG.out.c3; have g4 : v8.cell? ⟨b5, 4, none⟩ = some (.int .i64 0) := DG.out.c4; have g5 : v8.cell? ⟨b5, 5, none⟩ = some (.slice none 0 0) := DG.out.c5; have g6 : v8.cell? ⟨b5, 6, none⟩ = some (.int .i64 0) := DG.out.c6; have g7 : v8.cell? ⟨b5, 7, none⟩ = some (.int .i64 0) := DG.out.c7))
    obtain ⟨v9, hv9⟩ : ∃ x, x = v8.alloc (.cells #[.int .i64 0, .int .i64 0, .int .i64 0, .int .i64 0, .int .i64 0, .slice none 0 0, .int .i64 0, .int .i64 0] 26) := ⟨_, rfl⟩
    obtain ⟨b9, eb9⟩ : ∃ b, b = v8.heap.size := ⟨_, rfl⟩
    rw [← hv9, ← eb9]
    have yb9 : v8.heap.size ≤ b9 := by omega
    have ub9 : b9 < v9.heap.size := by rw [hv9, eb9]; simp
    have kv9 : Below v8.heap.size v8 v9 := by rw [hv9]; exact new_below _ _
    have DH : Hid (Pc v9 (b9) (⟨0, 0, 0, 0, 0, 0, 0⟩ : Pb) (.slice none 0 0)) := by rw [hv9, eb9]; exact pc_new _ (⟨0, 0, 0, 0, 0, 0, 0⟩ : Pb) _ _
    clear hv9 eb9
    have hbw : Below w.heap.size w v9 := below_two hbw kv9; clear q0 q1 q2 q3 q4 q5 q6 q7
    have DA : Hid (Pc v9 (b3) (⟨0, 0, 0, 0, 0, 0, 0⟩ : Pb) (.slice none 0 0)) := DA.out.next kv9
    have q0 : v9.cell? ⟨b3, 0, none⟩ = some (.int .i64 0) := DA.out.c0
    have q1 : v9.cell? ⟨b3, 1, none⟩ = some (.int .i64 0) := DA.out.c1
    have q2 : v9.cell? ⟨b3, 2, none⟩ = some (.int .i64 0) := DA.out.c2
    have q3 : v9.cell? ⟨b3, 3, none⟩ = some (.int .i64 0) := DA.out.c3
    have q4 : v9.cell? ⟨b3, 4, none⟩ = some (.int .i64 0) := DA.out.c4
    have q5 : v9.cell? ⟨b3, 5, none⟩ = some (.slice none 0 0) := DA.out.c5
    have q6 : v9.cell? ⟨b3, 6, none⟩ = some (.int .i64 0) := DA.out.c6
    have q7 : v9.cell? ⟨b3, 7, none⟩ = some (.int .i64 0) := DA.out.c7; clear g0 g1 g2 g3 g4 g5 g6 g7
    have DG : Hid (Pc v9 (b5) (⟨0, 0, 0, 0, 0, 0, 0⟩ : Pb) (.slice none 0 0)) := DG.out.next kv9
    have g0 : v9.cell? ⟨b5, 0, none⟩ = some (.int .i64 0) := DG.out.c0
    have g1 : v9.cell? ⟨b5, 1, none⟩ = some (.int .i64 0) := DG.out.c1
    have g2 : v9.cell? ⟨b5, 2, none⟩ = some (.int .i64 0) := DG.out.c2
    have g3 : v9.cell? ⟨b5, 3, none⟩ = some (.int .i64 0) := DG.out.c3
    have g4 : v9.cell? ⟨b5, 4, none⟩ = some (.int .i64 0) := DG.out.c4
    have g5 : v9.cell? ⟨b5, 5, none⟩ = some (.slice none 0 0) := DG.out.c5
    have g6 : v9.cell? ⟨b5, 6, none⟩ = some (.int .i64 0) := DG.out.c6
    have g7 : v9.cell? ⟨b5, 7, none⟩ = some (.int .i64 0) := DG.out.c7
    have h0 : v9.cell? ⟨b9, 0, none⟩ = some (.int .i64 0) := DH.out.c0
    have h1 : v9.cell? ⟨b9, 1, none⟩ = some (.int .i64 0) := DH.out.c1
    have h2 : v9.cell? ⟨b9, 2, none⟩ = some (.int .i64 0) := DH.out.c2
    have h3 : v9.cell? ⟨b9, 3, none⟩ = some (.int .i64 0) := DH.out.c3
    have h4 : v9.cell? ⟨b9, 4, none⟩ = some (.int .i64 0) := DH.out.c4
    have h5 : v9.cell? ⟨b9, 5, none⟩ = some (.slice none 0 0) := DH.out.c5
    have h6 : v9.cell? ⟨b9, 6, none⟩ = some (.int .i64 0) := DH.out.c6
    have h7 : v9.cell? ⟨b9, 7, none⟩ = some (.int .i64 0) := DH.out.c7
    go_wp2_with (first
      | (go_at_call 11; refine (eqProbe_same (show FV _ 0 (.slice none 0 0) [] from .inr ⟨rfl, rfl⟩) (show FV _ 0 (.slice none 0 0) [] from .inr ⟨rfl, rfl⟩) (by decide)).mono ?_; rintro e v10 ⟨rfl, hb10⟩; have hbw : Below w.heap.size w v10 := below_two hbw hb10; clear q0 q1 q2 q3 q4 q5 q6 q7; have DA : Hid (Pc v10 (b3) (⟨0, 0, 0, 0, 0, 0, 0⟩ : Pb) (.slice none 0 0)) := DA.out.next hb10; have q0 : v10.cell? ⟨b3, 0, none⟩ = some (.int .i64 0) := DA.out.c0; have q1 : v10.cell? ⟨b3, 1, none⟩ = some (.int .i64 0) := DA.out.c1; have q2 : v10.cell? ⟨b3, 2, none⟩ = some (.int .i64 0) := DA.out.c2; have q3 : v10.cell? ⟨b3, 3, none⟩ = some (.int .i64 0) := DA.out.c3; have q4 : v10.cell? ⟨b3, 4, none⟩ = some (.int .i64 0) := DA.out.c4; have q5 : v10.cell? ⟨b3, 5, none⟩ = some (.slice none 0 0) := DA.out.c5; have q6 : v10.cell? ⟨b3, 6, none⟩ = some (.int .i64 0) := DA.out.c6; have q7 : v10.cell? ⟨b3, 7, none⟩ = some (.int .i64 0) := DA.out.c7; clear g0 g1 g2 g3 g4 g5 g6 g7; have DG : Hid (Pc v10 (b5) (⟨0, 0, 0, 0, 0, 0, 0⟩ : Pb) (.slice none 0 0)) := DG.out.next hb10; have g0 : v10.cell? ⟨b5, 0, none⟩ = some (.int .i64 0) := DG.out.c0; have g1 : v10.cell? ⟨b5, 1, none⟩ = some (.int .i64 0) := DG.out.c1; have g2 : v10.cell? ⟨b5, 2, none⟩ = some (.int .i64 0) := DG.out.c2; have g3 : v10.cell? ⟨b5, 3, none⟩ = some (.int .i64 0) := DG.out.c3; have g4 : v10.cell? ⟨b5, 4, none⟩ = some (.int .i64 0) := DG.out.c4; have g5 : v10.cell? ⟨b5, 5, none⟩ = some (.slice none 0 0) := DG.out.c5; have g6 : v10.cell? ⟨b5, 6, none⟩ = some (.int .i64 0) := DG.out.c6; have g7 : v10.cell? ⟨b5, 7, none⟩ = some (.int .i64 0) := DG.out.c7)
      | (go_at_call 13; refine (heldProbe_any (m := 0) 1 (show FV _ 0 (.slice none 0 0) [] from .inr ⟨rfl, rfl⟩) (by decide) (by decide) (by decide)).mono ?_; rintro e v11 ⟨rfl, hb11⟩; have hbw : Below w.heap.size w v11 := below_two hbw hb11))
    go_ret
    exact ⟨rfl, hbw⟩
  · go_enter Try.func3, Try.ntmps3
    go_upto_region 2 with (first
      | (go_at_call 9; refine (specNewProbe_yes _ hT).mono ?_; rintro e v1 ⟨rfl, hb1⟩; have hbw : Below w.heap.size w v1 := hb1))
    obtain ⟨v2, hv2⟩ : ∃ x, x = v1.alloc (.cells #[.int .i64 1, .int .i64 0, .int .i64 a0, .int .i64 0, .int .i64 0, .slice none 0 0, .int .i64 0, .int .i64 a0] 26) := ⟨_, rfl⟩
    obtain ⟨b3, eb3⟩ : ∃ b, b = v1.heap.size := ⟨_, rfl⟩
    rw [← hv2, ← eb3]
    have yb3 : v1.heap.size ≤ b3 := by omega
    have ub3 : b3 < v2.heap.size := by rw [hv2, eb3]; simp
    have kv2 : Below v1.heap.size v1 v2 := by rw [hv2]; exact new_below _ _
    have DA : Hid (Pc v2 (b3) (⟨1, 0, a0, 0, 0, 0, a0⟩ : Pb) (.slice none 0 0)) := by rw [hv2, eb3]; exact pc_new _ (⟨1, 0, a0, 0, 0, 0, a0⟩ : Pb) _ _
    clear hv2 eb3
    have hbw : Below w.heap.size w v2 := below_two hbw kv2
    have q0 : v2.cell? ⟨b3, 0, none⟩ = some (.int .i64 1) := DA.out.c0
    have q1 : v2.cell? ⟨b3, 1, none⟩ = some (.int .i64 0) := DA.out.c1
    have q2 : v2.cell? ⟨b3, 2, none⟩ = some (.int .i64 a0) := DA.out.c2
    have q3 : v2.cell? ⟨b3, 3, none⟩ = some (.int .i64 0) := DA.out.c3
    have q4 : v2.cell? ⟨b3, 4, none⟩ = some (.int .i64 0) := DA.out.c4
    have q5 : v2.cell? ⟨b3, 5, none⟩ = some (.slice none 0 0) := DA.out.c5
    have q6 : v2.cell? ⟨b3, 6, none⟩ = some (.int .i64 0) := DA.out.c6
    have q7 : v2.cell? ⟨b3, 7, none⟩ = some (.int .i64 a0) := DA.out.c7
    go_upto_region 3 with (first
      | (go_at_call 10; refine (implNewProbe_yes _ hT).mono ?_; rintro e v3 ⟨rfl, hb3⟩; have hbw : Below w.heap.size w v3 := below_two hbw hb3; clear q0 q1 q2 q3 q4 q5 q6 q7; have DA : Hid (Pc v3 (b3) (⟨1, 0, a0, 0, 0, 0, a0⟩ : Pb) (.slice none 0 0)) := DA.out.next hb3; have q0 : v3.cell? ⟨b3, 0, none⟩ = some (.int .i64 1) := DA.out.c0; have q1 : v3.cell? ⟨b3, 1, none⟩ = some (.int .i64 0) := DA.out.c1; have q2 : v3.cell? ⟨b3, 2, none⟩ = some (.int .i64 a0) := DA.out.c2; have q3 : v3.cell? ⟨b3, 3, none⟩ = some (.int .i64 0) := DA.out.c3; have q4 : v3.cell? ⟨b3, 4, none⟩ = some (.int .i64 0) := DA.out.c4; have q5 : v3.cell? ⟨b3, 5, none⟩ = some (.slice none 0 0) := DA.out.c5; have q6 : v3.cell? ⟨b3, 6, none⟩ = some (.int .i64 0) := DA.out.c6; have q7 : v3.cell? ⟨b3, 7, none⟩ = some (.int .i64 a0) := DA.out.c7))
    obtain ⟨v4, hv4⟩ : ∃ x, x = v3.alloc (.cells #[.int .i64 1, .int .i64 0, .int .i64 a0, .int .i64 0, .int .i64 0, .slice none 0 0, .int .i64 0, .int .i64 a0] 26) := ⟨_, rfl⟩
    obtain ⟨b5, eb5⟩ : ∃ b, b = v3.heap.size := ⟨_, rfl⟩
    rw [← hv4, ← eb5]
    have yb5 : v3.heap.size ≤ b5 := by omega
    have ub5 : b5 < v4.heap.size := by rw [hv4, eb5]; simp
    have kv4 : Below v3.heap.size v3 v4 := by rw [hv4]; exact new_below _ _
    have DG : Hid (Pc v4 (b5) (⟨1, 0, a0, 0, 0, 0, a0⟩ : Pb) (.slice none 0 0)) := by rw [hv4, eb5]; exact pc_new _ (⟨1, 0, a0, 0, 0, 0, a0⟩ : Pb) _ _
    clear hv4 eb5
    have hbw : Below w.heap.size w v4 := below_two hbw kv4; clear q0 q1 q2 q3 q4 q5 q6 q7
    have DA : Hid (Pc v4 (b3) (⟨1, 0, a0, 0, 0, 0, a0⟩ : Pb) (.slice none 0 0)) := DA.out.next kv4
    have q0 : v4.cell? ⟨b3, 0, none⟩ = some (.int .i64 1) := DA.out.c0
    have q1 : v4.cell? ⟨b3, 1, none⟩ = some (.int .i64 0) := DA.out.c1
    have q2 : v4.cell? ⟨b3, 2, none⟩ = some (.int .i64 a0) := DA.out.c2
    have q3 : v4.cell? ⟨b3, 3, none⟩ = some (.int .i64 0) := DA.out.c3
    have q4 : v4.cell? ⟨b3, 4, none⟩ = some (.int .i64 0) := DA.out.c4
    have q5 : v4.cell? ⟨b3, 5, none⟩ = some (.slice none 0 0) := DA.out.c5
    have q6 : v4.cell? ⟨b3, 6, none⟩ = some (.int .i64 0) := DA.out.c6
    have q7 : v4.cell? ⟨b3, 7, none⟩ = some (.int .i64 a0) := DA.out.c7
    have g0 : v4.cell? ⟨b5, 0, none⟩ = some (.int .i64 1) := DG.out.c0
    have g1 : v4.cell? ⟨b5, 1, none⟩ = some (.int .i64 0) := DG.out.c1
    have g2 : v4.cell? ⟨b5, 2, none⟩ = some (.int .i64 a0) := DG.out.c2
    have g3 : v4.cell? ⟨b5, 3, none⟩ = some (.int .i64 0) := DG.out.c3
    have g4 : v4.cell? ⟨b5, 4, none⟩ = some (.int .i64 0) := DG.out.c4
    have g5 : v4.cell? ⟨b5, 5, none⟩ = some (.slice none 0 0) := DG.out.c5
    have g6 : v4.cell? ⟨b5, 6, none⟩ = some (.int .i64 0) := DG.out.c6
    have g7 : v4.cell? ⟨b5, 7, none⟩ = some (.int .i64 a0) := DG.out.c7
    go_upto_region 5 with (first
      | (go_at_call 11; refine (eqProbe_same (show FV _ 0 (.slice none 0 0) [] from .inr ⟨rfl, rfl⟩) (show FV _ 0 (.slice none 0 0) [] from .inr ⟨rfl, rfl⟩) (by decide)).mono ?_; rintro e v5 ⟨rfl, hb5⟩; have hbw : Below w.heap.size w v5 := below_two hbw hb5; clear q0 q1 q2 q3 q4 q5 q6 q7; have DA : Hid (Pc v5 (b3) (⟨1, 0, a0, 0, 0, 0, a0⟩ : Pb) (.slice none 0 0)) := DA.out.next hb5; have q0 : v5.cell? ⟨b3, 0, none⟩ = some (.int .i64 1) := DA.out.c0; have q1 : v5.cell? ⟨b3, 1, none⟩ = some (.int .i64 0) := DA.out.c1; have q2 : v5.cell? ⟨b3, 2, none⟩ = some (.int .i64 a0) := DA.out.c2; have q3 : v5.cell? ⟨b3, 3, none⟩ = some (.int .i64 0) := DA.out.c3; have q4 : v5.cell? ⟨b3, 4, none⟩ = some (.int .i64 0) := DA.out.c4; have q5 : v5.cell? ⟨b3, 5, none⟩ = some (.slice none 0 0) := DA.out.c5; have q6 : v5.cell? ⟨b3, 6, none⟩ = some (.int .i64 0) := DA.out.c6; have q7 : v5.cell? ⟨b3, 7, none⟩ = some (.int .i64 a0) := DA.out.c7; clear g0 g1 g2 g3 g4 g5 g6 g7; have DG : Hid (Pc v5 (b5) (⟨1, 0, a0, 0, 0, 0, a0⟩ : Pb) (.slice none 0 0)) := DG.out.next hb5; have g0 : v5.cell? ⟨b5, 0, none⟩ = some (.int .i64 1) := DG.out.c0; have g1 : v5.cell? ⟨b5, 1, none⟩ = some (.int .i64 0) := DG.out.c1; have g2 : v5.cell? ⟨b5, 2, none⟩ = some (.int .i64 a0) := DG.out.c2; have g3 : v5.cell? ⟨b5, 3, none⟩ = some (.int .i64 0) := DG.out.c3; have g4 : v5.cell? ⟨b5, 4, none⟩ = some (.int .i64 0) := DG.out.c4; have g5 : v5.cell? ⟨b5, 5, none⟩ = some (.slice none 0 0) := DG.out.c5; have g6 : v5.cell? ⟨b5, 6, none⟩ = some (.int .i64 0) := DG.out.c6; have g7 : v5.cell? ⟨b5, 7, none⟩ = some (.int .i64 a0) := DG.out.c7))
    go_upto_region 7 with (first
      | (go_at_call 12; refine (markProbe_any 1 (show FV _ 0 (.slice none 0 0) [] from .inr ⟨rfl, rfl⟩) (by decide) (by decide) (by decide)).mono ?_; rintro e v6 ⟨rfl, fm, ho6⟩; have hbw := hbw.trans (ho6.below (fun g hg => (by cases hg)) hbw.size); clear q0 q1 q2 q3 q4 q5 q6 q7; have DA : Hid (Pc v6 (b3) (⟨1, 0, a0, 0, 0, 0, a0⟩ : Pb) (.slice none 0 0)) := DA.out.onlyO ho6 (fun e => (by cases e)); have q0 : v6.cell? ⟨b3, 0, none⟩ = some (.int .i64 1) := DA.out.c0; have q1 : v6.cell? ⟨b3, 1, none⟩ = some (.int .i64 0) := DA.out.c1; have q2 : v6.cell? ⟨b3, 2, none⟩ = some (.int .i64 a0) := DA.out.c2; have q3 : v6.cell? ⟨b3, 3, none⟩ = some (.int .i64 0) := DA.out.c3; have q4 : v6.cell? ⟨b3, 4, none⟩ = some (.int .i64 0) := DA.out.c4; have q5 : v6.cell? ⟨b3, 5, none⟩ = some (.slice none 0 0) := DA.out.c5; have q6 : v6.cell? ⟨b3, 6, none⟩ = some (.int .i64 0) := DA.out.c6; have q7 : v6.cell? ⟨b3, 7, none⟩ = some (.int .i64 a0) := DA.out.c7; clear g0 g1 g2 g3 g4 g5 g6 g7; have DG : Hid (Pc v6 (b5) (⟨1, 0, a0, 0, 0, 0, a0⟩ : Pb) (.slice none 0 0)) := DG.out.onlyO ho6 (fun e => (by cases e)); have g0 : v6.cell? ⟨b5, 0, none⟩ = some (.int .i64 1) := DG.out.c0; have g1 : v6.cell? ⟨b5, 1, none⟩ = some (.int .i64 0) := DG.out.c1; have g2 : v6.cell? ⟨b5, 2, none⟩ = some (.int .i64 a0) := DG.out.c2; have g3 : v6.cell? ⟨b5, 3, none⟩ = some (.int .i64 0) := DG.out.c3; have g4 : v6.cell? ⟨b5, 4, none⟩ = some (.int .i64 0) := DG.out.c4; have g5 : v6.cell? ⟨b5, 5, none⟩ = some (.slice none 0 0) := DG.out.c5; have g6 : v6.cell? ⟨b5, 6, none⟩ = some (.int .i64 0) := DG.out.c6; have g7 : v6.cell? ⟨b5, 7, none⟩ = some (.int .i64 a0) := DG.out.c7))
    go_upto_region 13 with (first
      | (go_at_call 13; refine (heldProbe_any (m := 0) 1 (show FV _ 0 (.slice none 0 0) [] from .inr ⟨rfl, rfl⟩) (by decide) (by decide) (by decide)).mono ?_; rintro e v7 ⟨rfl, hb7⟩; have hbw : Below w.heap.size w v7 := below_two hbw hb7; clear q0 q1 q2 q3 q4 q5 q6 q7; have DA : Hid (Pc v7 (b3) (⟨1, 0, a0, 0, 0, 0, a0⟩ : Pb) (.slice none 0 0)) := DA.out.next hb7; have q0 : v7.cell? ⟨b3, 0, none⟩ = some (.int .i64 1) := DA.out.c0; have q1 : v7.cell? ⟨b3, 1, none⟩ = some (.int .i64 0) := DA.out.c1; have q2 : v7.cell? ⟨b3, 2, none⟩ = some (.int .i64 a0) := DA.out.c2; have q3 : v7.cell? ⟨b3, 3, none⟩ = some (.int .i64 0) := DA.out.c3; have q4 : v7.cell? ⟨b3, 4, none⟩ = some (.int .i64 0) := DA.out.c4; have q5 : v7.cell? ⟨b3, 5, none⟩ = some (.slice none 0 0) := DA.out.c5; have q6 : v7.cell? ⟨b3, 6, none⟩ = some (.int .i64 0) := DA.out.c6; have q7 : v7.cell? ⟨b3, 7, none⟩ = some (.int .i64 a0) := DA.out.c7; clear g0 g1 g2 g3 g4 g5 g6 g7; have DG : Hid (Pc v7 (b5) (⟨1, 0, a0, 0, 0, 0, a0⟩ : Pb) (.slice none 0 0)) := DG.out.next hb7; have g0 : v7.cell? ⟨b5, 0, none⟩ = some (.int .i64 1) := DG.out.c0; have g1 : v7.cell? ⟨b5, 1, none⟩ = some (.int .i64 0) := DG.out.c1; have g2 : v7.cell? ⟨b5, 2, none⟩ = some (.int .i64 a0) := DG.out.c2; have g3 : v7.cell? ⟨b5, 3, none⟩ = some (.int .i64 0) := DG.out.c3; have g4 : v7.cell? ⟨b5, 4, none⟩ = some (.int .i64 0) := DG.out.c4; have g5 : v7.cell? ⟨b5, 5, none⟩ = some (.slice none 0 0) := DG.out.c5; have g6 : v7.cell? ⟨b5, 6, none⟩ = some (.int .i64 0) := DG.out.c6; have g7 : v7.cell? ⟨b5, 7, none⟩ = some (.int .i64 a0) := DG.out.c7))
    go_upto_region 14 with (first
      | (go_at_call 10; refine (implNewProbe_yes _ hT).mono ?_; rintro e v8 ⟨rfl, hb8⟩; have hbw : Below w.heap.size w v8 := below_two hbw hb8; clear q0 q1 q2 q3 q4 q5 q6 q7; have DA : Hid (Pc v8 (b3) (⟨1, 0, a0, 0, 0, 0, a0⟩ : Pb) (.slice none 0 0)) := DA.out.next hb8; have q0 : v8.cell? ⟨b3, 0, none⟩ = some (.int .i64 1) := DA.out.c0; have q1 : v8.cell? ⟨b3, 1, none⟩ = some (.int .i64 0) := DA.out.c1; have q2 : v8.cell? ⟨b3, 2, none⟩ = some (.int .i64 a0) := DA.out.c2; have q3 : v8.cell? ⟨b3, 3, none⟩ = some (.int .i64 0) := DA.out.c3; have q4 : v8.cell? ⟨b3, 4, none⟩ = some (.int .i64 0) := DA.out.c4; have q5 : v8.cell? ⟨b3, 5, none⟩ = some (.slice none 0 0) := DA.out.c5; have q6 : v8.cell? ⟨b3, 6, none⟩ = some (.int .i64 0) := DA.out.c6; have q7 : v8.cell? ⟨b3, 7, none⟩ = some (.int .i64 a0) := DA.out.c7; clear g0 g1 g2 g3 g4 g5 g6 g7; have DG : Hid (Pc v8 (b5) (⟨1, 0, a0, 0, 0, 0, a0⟩ : Pb) (.slice none 0 0)) := DG.out.next hb8; have g0 : v8.cell? ⟨b5, 0, none⟩ = some (.int .i64 1) := DG.out.c0; have g1 : v8.cell? ⟨b5, 1, none⟩ = some (.int .i64 0) := DG.out.c1; have g2 : v8.cell? ⟨b5, 2, none⟩ = some (.int .i64 a0) := DG.out.c2; have g3 : v8.cell? ⟨b5, 3, none⟩ = some (.int .i64 0) := DG.out.c3; have g4 : v8.cell? ⟨b5, 4, none⟩ = some (.int .i64 0) := DG.out.c4; have g5 : v8.cell? ⟨b5, 5, none⟩ = some (.slice none 0 0) := DG.out.c5; have g6 : v8.cell? ⟨b5, 6, none⟩ = some (.int .i64 0) := DG.out.c6; have g7 : v8.cell? ⟨b5, 7, none⟩ = some (.int .i64 a0) := DG.out.c7))
    obtain ⟨v9, hv9⟩ : ∃ x, x = v8.alloc (.cells #[.int .i64 1, .int .i64 0, .int .i64 a0, .int .i64 0, .int .i64 0, .slice none 0 0, .int .i64 0, .int .i64 a0] 26) := ⟨_, rfl⟩
    obtain ⟨b9, eb9⟩ : ∃ b, b = v8.heap.size := ⟨_, rfl⟩
    rw [← hv9, ← eb9]
    have yb9 : v8.heap.size ≤ b9 := by omega
    have ub9 : b9 < v9.heap.size := by rw [hv9, eb9]; simp
    have kv9 : Below v8.heap.size v8 v9 := by rw [hv9]; exact new_below _ _
    have DH : Hid (Pc v9 (b9) (⟨1, 0, a0, 0, 0, 0, a0⟩ : Pb) (.slice none 0 0)) := by rw [hv9, eb9]; exact pc_new _ (⟨1, 0, a0, 0, 0, 0, a0⟩ : Pb) _ _
    clear hv9 eb9
    have hbw : Below w.heap.size w v9 := below_two hbw kv9; clear q0 q1 q2 q3 q4 q5 q6 q7
    have DA : Hid (Pc v9 (b3) (⟨1, 0, a0, 0, 0, 0, a0⟩ : Pb) (.slice none 0 0)) := DA.out.next kv9
    have q0 : v9.cell? ⟨b3, 0, none⟩ = some (.int .i64 1) := DA.out.c0
    have q1 : v9.cell? ⟨b3, 1, none⟩ = some (.int .i64 0) := DA.out.c1
    have q2 : v9.cell? ⟨b3, 2, none⟩ = some (.int .i64 a0) := DA.out.c2
    have q3 : v9.cell? ⟨b3, 3, none⟩ = some (.int .i64 0) := DA.out.c3
    have q4 : v9.cell? ⟨b3, 4, none⟩ = some (.int .i64 0) := DA.out.c4
    have q5 : v9.cell? ⟨b3, 5, none⟩ = some (.slice none 0 0) := DA.out.c5
    have q6 : v9.cell? ⟨b3, 6, none⟩ = some (.int .i64 0) := DA.out.c6
    have q7 : v9.cell? ⟨b3, 7, none⟩ = some (.int .i64 a0) := DA.out.c7; clear g0 g1 g2 g3 g4 g5 g6 g7
    have DG : Hid (Pc v9 (b5) (⟨1, 0, a0, 0, 0, 0, a0⟩ : Pb) (.slice none 0 0)) := DG.out.next kv9
    have g0 : v9.cell? ⟨b5, 0, none⟩ = some (.int .i64 1) := DG.out.c0
    have g1 : v9.cell? ⟨b5, 1, none⟩ = some (.int .i64 0) := DG.out.c1
    have g2 : v9.cell? ⟨b5, 2, none⟩ = some (.int .i64 a0) := DG.out.c2
    have g3 : v9.cell? ⟨b5, 3, none⟩ = some (.int .i64 0) := DG.out.c3
    have g4 : v9.cell? ⟨b5, 4, none⟩ = some (.int .i64 0) := DG.out.c4
    have g5 : v9.cell? ⟨b5, 5, none⟩ = some (.slice none 0 0) := DG.out.c5
    have g6 : v9.cell? ⟨b5, 6, none⟩ = some (.int .i64 0) := DG.out.c6
    have g7 : v9.cell? ⟨b5, 7, none⟩ = some (.int .i64 a0) := DG.out.c7
    have h0 : v9.cell? ⟨b9, 0, none⟩ = some (.int .i64 1) := DH.out.c0
    have h1 : v9.cell? ⟨b9, 1, none⟩ = some (.int .i64 0) := DH.out.c1
    have h2 : v9.cell? ⟨b9, 2, none⟩ = some (.int .i64 a0) := DH.out.c2
    have h3 : v9.cell? ⟨b9, 3, none⟩ = some (.int .i64 0) := DH.out.c3
    have h4 : v9.cell? ⟨b9, 4, none⟩ = some (.int .i64 0) := DH.out.c4
    have h5 : v9.cell? ⟨b9, 5, none⟩ = some (.slice none 0 0) := DH.out.c5
    have h6 : v9.cell? ⟨b9, 6, none⟩ = some (.int .i64 0) := DH.out.c6
    have h7 : v9.cell? ⟨b9, 7, none⟩ = some (.int .i64 a0) := DH.out.c7
    go_wp2_with (first
      | (go_at_call 11; refine (eqProbe_same (show FV _ 0 (.slice none 0 0) [] from .inr ⟨rfl, rfl⟩) (show FV _ 0 (.slice none 0 0) [] from .inr ⟨rfl, rfl⟩) (by decide)).mono ?_; rintro e v10 ⟨rfl, hb10⟩; have hbw : Below w.heap.size w v10 := below_two hbw hb10; clear q0 q1 q2 q3 q4 q5 q6 q7; have DA : Hid (Pc v10 (b3) (⟨1, 0, a0, 0, 0, 0, a0⟩ : Pb) (.slice none 0 0)) := DA.out.next hb10; have q0 : v10.cell? ⟨b3, 0, none⟩ = some (.int .i64 1) := DA.out.c0; have q1 : v10.cell? ⟨b3, 1, none⟩ = some (.int .i64 0) := DA.out.c1; have q2 : v10.cell? ⟨b3, 2, none⟩ = some (.int .i64 a0) := DA.out.c2; have q3 : v10.cell? ⟨b3, 3, none⟩ = some (.int .i64 0) := DA.out.c3; have q4 : v10.cell? ⟨b3, 4, none⟩ = some (.int .i64 0) := DA.out.c4; have q5 : v10.cell? ⟨b3, 5, none⟩ = some (.slice none 0 0) := DA.out.c5; have q6 : v10.cell? ⟨b3, 6, none⟩ = some (.int .i64 0) := DA.out.c6; have q7 : v10.cell? ⟨b3, 7, none⟩ = some (.int .i64 a0) := DA.out.c7; clear g0 g1 g2 g3 g4 g5 g6 g7; have DG : Hid (Pc v10 (b5) (⟨1, 0, a0, 0, 0, 0, a0⟩ : Pb) (.slice none 0 0)) := DG.out.next hb10; have g0 : v10.cell? ⟨b5, 0, none⟩ = some (.int .i64 1) := DG.out.c0; have g1 : v10.cell? ⟨b5, 1, none⟩ = some (.int .i64 0) := DG.out.c1; have g2 : v10.cell? ⟨b5, 2, none⟩ = some (.int .i64 a0) := DG.out.c2; have g3 : v10.cell? ⟨b5, 3, none⟩ = some (.int .i64 0) := DG.out.c3; have g4 : v10.cell? ⟨b5, 4, none⟩ = some (.int .i64 0) := DG.out.c4; have g5 : v10.cell? ⟨b5, 5, none⟩ = some (.slice none 0 0) := DG.out.c5; have g6 : v10.cell? ⟨b5, 6, none⟩ = some (.int .i64 0) := DG.out.c6; have g7 : v10.cell? ⟨b5, 7, none⟩ = some (.int .i64 a0) := DG.out.c7)
      | (go_at_call 13; refine (heldProbe_any (m := 0) 1 (show FV _ 0 (.slice none 0 0) [] from .inr ⟨rfl, rfl⟩) (by decide) (by decide) (by decide)).mono ?_; rintro e v11 ⟨rfl, hb11⟩; have hbw : Below w.heap.size w v11 := below_two hbw hb11))
    go_ret
    exact ⟨rfl, hbw⟩

/-! ### THE ROW's STEP: WRITTEN OUT: LEAVE IT -/
set_option maxRecDepth 100000 in
theorem lifted (os : Os) (started : os.Started) (H : Type) (enc : TypeId × Value → H) :
    ReturnsInHanded {} Try.checked os 3 .any (Rows.fnExactNewProbeSpec.pre6 enc Try.prog Try.f3 Rows.fnExactNewProbeRow.domain false) (Rows.fnExactNewProbeSpec.post enc Try.prog Try.f3 false true false false) := by
  refine returnsInHanded_of_change (C := Try.checked) own started (by kernel_rfl) Try.func3
    (ChangeSpec.witness6 (enc := enc) (C := Try.checked) false ⟨#[], #[.int .i64 0], []⟩ 8 (by kernel_rfl) (by kernel_rfl) (by kernel_rfl) (by kernel_rfl)) ?_
  intro W base args ds gs before hval0 hW hcnd _
  have hval : ∀ (j : Nat) t v, Try.f3.params[j]? = some t → args[j]? = some v → Value.okWide Try.prog W .any base t v := hval0
  have hW' := hW
  obtain ⟨p, q, hA0, hV, rfl, hfz, hnd⟩ := hW
  have hA : DataW.TrodAll enc Try.prog W 0 (fun _ => true) true Try.f3.params.toList args.toList ds p := hA0
  rw [Try.params3] at hA hval
  obtain ⟨v0, vs0, d0, ds0, p0, q0, hargs, rfl, rfl, h0, r0⟩ := trodAll_cons hA
  obtain ⟨rfl, rfl, rfl⟩ := trodAll_nil r0
  obtain rfl : args = #[v0] := by cases args; simp_all
  obtain ⟨rfl, rfl⟩ := trodVars_none hV
  obtain ⟨a0, rfl, rfl, rfl, w0⟩ := open_int Try.underlying2 (hval 0 2 v0 rfl rfl) h0
  clear hA0 hval0
  refine (walk a0 w0 W).mono fun e W' ⟨he, hg⟩ => ?_
  subst he
  exact ⟨_, rfl, _, _, _, [], _, [], hW', (trodAll_cons_mk (shut_bool Try.underlying4 _) trodAll_mk0), (trodAll_cons_mk (shut_int Try.underlying2 w0) trodAll_mk0), rfl, hg.frame _, fun h => by cases h⟩

theorem over : Rows.fnExactNewProbeRow.holds Try.pinned (OpenSpec.ofChange Rows.fnExactNewProbeSpec) :=
  OpenClaim.holds_of_wide 3 Try.f3 rfl rfl rfl rfl rfl rfl rfl ⟨rfl, rfl, rfl, rfl, rfl⟩ rfl rfl rfl rfl rfl (by kernel_rfl) Try.func3 (by kernel_rfl)
    (of_decide_eq_true (by kernel_rfl)) (by unfold Func.isWrapper; first | (rw [if_pos (by decide +kernel)]; kernel_rfl) | (rw [if_neg (by decide +kernel)]; exact ⟨rfl, rfl⟩))
    (fun os started H enc _ => lifted os started H enc)

/-- ████ THE STATEMENT ████ -/
theorem proved : Rows.FnExactNewProbeSaid :=
  over
#print axioms proved
end Go.Proofs.Ytiibafphgjlffaq.fnExactNewProbe
namespace Go.Proofs.Ytiibafphgjlffaq
theorem fnExactNewProbe_holds : Rows.FnExactNewProbeSaid := fnExactNewProbe.proved
#print axioms fnExactNewProbe_holds
end Go.Proofs.Ytiibafphgjlffaq
