/- What impl's CcOk answers; what spec's and impl's NewCc answer. -/
import Derived.Test.YtiibafphgjlffapCcOk
namespace Go.Proofs.Ytiibafphgjlffap
open Go.ChangeShapes Go.WideShapes Go.ChangeAt Go.RowKit
set_option maxRecDepth 100000
set_option linter.unusedVariables false

set_option maxHeartbeats 4000000 in
theorem implCcOk_any (k wn th fl ac la og st fr : Int) (sl : Bool) (w : World) : Calls Try.prog 28 #[.agg #[.int .i64 k, .int .i64 wn, .int .i64 th, .int .i64 fl, .int .i64 ac, .int .i64 la, .int .i64 og, .int .i64 st, .int .i64 fr, .bool sl]] w fun e w' => e = .returned (.bool (ccB k wn th fl ac la og st fr)) ∧ w' = w.alloc (.cells #[.int .i64 k, .int .i64 wn, .int .i64 th, .int .i64 fl, .int .i64 ac, .int .i64 la, .int .i64 og, .int .i64 st, .int .i64 fr, .bool sl] 24) := by
  have key : ∀ fk fwn fth fst ffl fac fla fog ffr : Bool, kindB k = fk → openB wn = fwn → openB th = fth → timeB st = fst → w10B fl = ffl → w10B ac = fac → w10B la = fla → w10B og = fog → w10B fr = ffr → Calls Try.prog 28 #[.agg #[.int .i64 k, .int .i64 wn, .int .i64 th, .int .i64 fl, .int .i64 ac, .int .i64 la, .int .i64 og, .int .i64 st, .int .i64 fr, .bool sl]] w fun e w' => e = .returned (.bool (((((((((fk && fwn) && fth) && ffl) && fac) && fla) && fog) && ffr) && fst))) ∧ w' = w.alloc (.cells #[.int .i64 k, .int .i64 wn, .int .i64 th, .int .i64 fl, .int .i64 ac, .int .i64 la, .int .i64 og, .int .i64 st, .int .i64 fr, .bool sl] 24) := by
    intro fk fwn fth fst ffl fac fla fog ffr hk hwn hth hst hfl hac hla hog hfr
    cases fk
    · go_enter Try.func28, Try.ntmps28
      go_wp2_with (first
        | (go_at_call 54; refine (iKind_is hk _).mono ?_; rintro e w2 ⟨rfl, rfl⟩))
      go_ret
      exact ⟨rfl, rfl⟩
    cases fwn
    · go_enter Try.func28, Try.ntmps28
      go_wp2_with (first
        | (go_at_call 54; refine (iKind_is hk _).mono ?_; rintro e w2 ⟨rfl, rfl⟩)
        | (go_at_call 55; refine (iOpen_is hwn _).mono ?_; rintro e w2 ⟨rfl, rfl⟩))
      go_ret
      exact ⟨rfl, rfl⟩
    cases fth
    · go_enter Try.func28, Try.ntmps28
      go_wp2_with (first
        | (go_at_call 54; refine (iKind_is hk _).mono ?_; rintro e w2 ⟨rfl, rfl⟩)
        | (go_at_call 55; refine (iOpen_is hwn _).mono ?_; rintro e w2 ⟨rfl, rfl⟩)
        | (go_at_call 55; refine (iOpen_is hth _).mono ?_; rintro e w2 ⟨rfl, rfl⟩))
      go_ret
      exact ⟨rfl, rfl⟩
    cases fst
    · rw [Bool.and_false]
      go_enter Try.func28, Try.ntmps28
      go_wp2_with (first
        | (go_at_call 54; refine (iKind_is hk _).mono ?_; rintro e w2 ⟨rfl, rfl⟩)
        | (go_at_call 55; refine (iOpen_is hwn _).mono ?_; rintro e w2 ⟨rfl, rfl⟩)
        | (go_at_call 55; refine (iOpen_is hth _).mono ?_; rintro e w2 ⟨rfl, rfl⟩)
        | (go_at_call 43; refine (iTim_is hst _).mono ?_; rintro e w2 ⟨rfl, rfl⟩))
      go_ret
      exact ⟨rfl, rfl⟩
    cases ffl
    · go_enter Try.func28, Try.ntmps28
      go_wp2_with (first
        | (go_at_call 54; refine (iKind_is hk _).mono ?_; rintro e w2 ⟨rfl, rfl⟩)
        | (go_at_call 55; refine (iOpen_is hwn _).mono ?_; rintro e w2 ⟨rfl, rfl⟩)
        | (go_at_call 55; refine (iOpen_is hth _).mono ?_; rintro e w2 ⟨rfl, rfl⟩)
        | (go_at_call 43; refine (iTim_is hst _).mono ?_; rintro e w2 ⟨rfl, rfl⟩)
        | (go_at_call 32; refine (iWin_is hfl _).mono ?_; rintro e w2 ⟨rfl, rfl⟩))
      go_ret
      exact ⟨rfl, rfl⟩
    cases fac
    · go_enter Try.func28, Try.ntmps28
      go_wp2_with (first
        | (go_at_call 54; refine (iKind_is hk _).mono ?_; rintro e w2 ⟨rfl, rfl⟩)
        | (go_at_call 55; refine (iOpen_is hwn _).mono ?_; rintro e w2 ⟨rfl, rfl⟩)
        | (go_at_call 55; refine (iOpen_is hth _).mono ?_; rintro e w2 ⟨rfl, rfl⟩)
        | (go_at_call 43; refine (iTim_is hst _).mono ?_; rintro e w2 ⟨rfl, rfl⟩)
        | (go_at_call 32; refine (iWin_is hfl _).mono ?_; rintro e w2 ⟨rfl, rfl⟩)
        | (go_at_call 32; refine (iWin_is hac _).mono ?_; rintro e w2 ⟨rfl, rfl⟩))
      go_ret
      exact ⟨rfl, rfl⟩
    cases fla
    · go_enter Try.func28, Try.ntmps28
      go_wp2_with (first
        | (go_at_call 54; refine (iKind_is hk _).mono ?_; rintro e w2 ⟨rfl, rfl⟩)
        | (go_at_call 55; refine (iOpen_is hwn _).mono ?_; rintro e w2 ⟨rfl, rfl⟩)
        | (go_at_call 55; refine (iOpen_is hth _).mono ?_; rintro e w2 ⟨rfl, rfl⟩)
        | (go_at_call 43; refine (iTim_is hst _).mono ?_; rintro e w2 ⟨rfl, rfl⟩)
        | (go_at_call 32; refine (iWin_is hfl _).mono ?_; rintro e w2 ⟨rfl, rfl⟩)
        | (go_at_call 32; refine (iWin_is hac _).mono ?_; rintro e w2 ⟨rfl, rfl⟩)
        | (go_at_call 32; refine (iWin_is hla _).mono ?_; rintro e w2 ⟨rfl, rfl⟩))
      go_ret
      exact ⟨rfl, rfl⟩
    cases fog
    · go_enter Try.func28, Try.ntmps28
      go_wp2_with (first
        | (go_at_call 54; refine (iKind_is hk _).mono ?_; rintro e w2 ⟨rfl, rfl⟩)
        | (go_at_call 55; refine (iOpen_is hwn _).mono ?_; rintro e w2 ⟨rfl, rfl⟩)
        | (go_at_call 55; refine (iOpen_is hth _).mono ?_; rintro e w2 ⟨rfl, rfl⟩)
        | (go_at_call 43; refine (iTim_is hst _).mono ?_; rintro e w2 ⟨rfl, rfl⟩)
        | (go_at_call 32; refine (iWin_is hfl _).mono ?_; rintro e w2 ⟨rfl, rfl⟩)
        | (go_at_call 32; refine (iWin_is hac _).mono ?_; rintro e w2 ⟨rfl, rfl⟩)
        | (go_at_call 32; refine (iWin_is hla _).mono ?_; rintro e w2 ⟨rfl, rfl⟩)
        | (go_at_call 32; refine (iWin_is hog _).mono ?_; rintro e w2 ⟨rfl, rfl⟩))
      go_ret
      exact ⟨rfl, rfl⟩
    cases ffr
    · go_enter Try.func28, Try.ntmps28
      go_wp2_with (first
        | (go_at_call 54; refine (iKind_is hk _).mono ?_; rintro e w2 ⟨rfl, rfl⟩)
        | (go_at_call 55; refine (iOpen_is hwn _).mono ?_; rintro e w2 ⟨rfl, rfl⟩)
        | (go_at_call 55; refine (iOpen_is hth _).mono ?_; rintro e w2 ⟨rfl, rfl⟩)
        | (go_at_call 43; refine (iTim_is hst _).mono ?_; rintro e w2 ⟨rfl, rfl⟩)
        | (go_at_call 32; refine (iWin_is hfl _).mono ?_; rintro e w2 ⟨rfl, rfl⟩)
        | (go_at_call 32; refine (iWin_is hac _).mono ?_; rintro e w2 ⟨rfl, rfl⟩)
        | (go_at_call 32; refine (iWin_is hla _).mono ?_; rintro e w2 ⟨rfl, rfl⟩)
        | (go_at_call 32; refine (iWin_is hog _).mono ?_; rintro e w2 ⟨rfl, rfl⟩)
        | (go_at_call 32; refine (iWin_is hfr _).mono ?_; rintro e w2 ⟨rfl, rfl⟩))
      go_ret
      exact ⟨rfl, rfl⟩
    go_enter Try.func28, Try.ntmps28
    go_wp2_with (first
      | (go_at_call 54; refine (iKind_is hk _).mono ?_; rintro e w2 ⟨rfl, rfl⟩)
      | (go_at_call 55; refine (iOpen_is hwn _).mono ?_; rintro e w2 ⟨rfl, rfl⟩)
      | (go_at_call 55; refine (iOpen_is hth _).mono ?_; rintro e w2 ⟨rfl, rfl⟩)
      | (go_at_call 43; refine (iTim_is hst _).mono ?_; rintro e w2 ⟨rfl, rfl⟩)
      | (go_at_call 32; refine (iWin_is hfl _).mono ?_; rintro e w2 ⟨rfl, rfl⟩)
      | (go_at_call 32; refine (iWin_is hac _).mono ?_; rintro e w2 ⟨rfl, rfl⟩)
      | (go_at_call 32; refine (iWin_is hla _).mono ?_; rintro e w2 ⟨rfl, rfl⟩)
      | (go_at_call 32; refine (iWin_is hog _).mono ?_; rintro e w2 ⟨rfl, rfl⟩)
      | (go_at_call 32; refine (iWin_is hfr _).mono ?_; rintro e w2 ⟨rfl, rfl⟩))
    go_ret
    exact ⟨rfl, rfl⟩
  exact key _ _ _ _ _ _ _ _ _ rfl rfl rfl rfl rfl rfl rfl rfl rfl
theorem implCcOk_is {k wn th fl ac la og st fr : Int} {f : Bool} (h : ccB k wn th fl ac la og st fr = f) (sl : Bool) (w : World) : Calls Try.prog 28 #[.agg #[.int .i64 k, .int .i64 wn, .int .i64 th, .int .i64 fl, .int .i64 ac, .int .i64 la, .int .i64 og, .int .i64 st, .int .i64 fr, .bool sl]] w fun e w' => e = .returned (.bool f) ∧ w' = w.alloc (.cells #[.int .i64 k, .int .i64 wn, .int .i64 th, .int .i64 fl, .int .i64 ac, .int .i64 la, .int .i64 og, .int .i64 st, .int .i64 fr, .bool sl] 24) := by
  subst h; exact implCcOk_any k wn th fl ac la og st fr sl w
end Go.Proofs.Ytiibafphgjlffap
