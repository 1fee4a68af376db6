/- What chapter 10's CcOk and NewCc answer, spec's and impl's. -/
import Derived.Test.YtiibafphgjlffaeCc
namespace Go.Proofs.Ytiibafphgjlffae
open Go.ChangeShapes Go.WideShapes Go.ChangeAt Go.RowKit
set_option maxRecDepth 100000
set_option linter.unusedVariables false

def kindB (x : Int) : Bool := decide (1 ≤ x) && decide (x ≤ 3)
def openB (x : Int) : Bool := decide (3000 ≤ x) && decide (x ≤ 1000000000)
def w10B (x : Int) : Bool := decide (0 ≤ x) && decide (x ≤ 1000000000)
def s10B (x : Int) : Bool := decide (1 ≤ x) && decide (x ≤ 1500)
/-- When a Cc is right. -/
def ccB (k wn th fl ac la og st fr : Int) : Bool := ((((((((kindB k && openB wn) && openB th) && w10B fl) && w10B ac) && w10B la) && w10B og) && w10B fr) && timeB st)
theorem cc_num {k wn th fl ac la og st fr : Int} (h : ccB k wn th fl ac la og st fr = true) : (1 ≤ k ∧ k ≤ 3) ∧ (3000 ≤ wn ∧ wn ≤ 1000000000) ∧ (3000 ≤ th ∧ th ≤ 1000000000) ∧ (0 ≤ fl ∧ fl ≤ 1000000000) ∧ (0 ≤ ac ∧ ac ≤ 1000000000) ∧ (0 ≤ la ∧ la ≤ 1000000000) ∧ (0 ≤ og ∧ og ≤ 1000000000) ∧ (0 ≤ st ∧ st ≤ 1000000000000000) ∧ (0 ≤ fr ∧ fr ≤ 1000000000) := by
  unfold ccB kindB openB w10B timeB at h
  simp only [Bool.and_eq_true, decide_eq_true_eq] at h
  omega
theorem sBig_is {x : Int} {f : Bool} (h : openB x = f) (w : World) : Calls Try.prog 71 #[.int .i64 x] w fun e w' => e = .returned (.bool f) ∧ w' = w := by
  subst h
  go_enter Try.func71, Try.ntmps71
  go_wp2_with (first | (go_at_call 66; refine (in_any _ _ _ _).mono ?_; rintro e w2 ⟨rfl, rfl⟩))
  go_ret
  exact ⟨rfl, rfl⟩
theorem sWin_is {x : Int} {f : Bool} (h : w10B x = f) (w : World) : Calls Try.prog 72 #[.int .i64 x] w fun e w' => e = .returned (.bool f) ∧ w' = w := by
  subst h
  go_enter Try.func72, Try.ntmps72
  go_wp2_with (first | (go_at_call 66; refine (in_any _ _ _ _).mono ?_; rintro e w2 ⟨rfl, rfl⟩))
  go_ret
  exact ⟨rfl, rfl⟩
theorem sTim_is {x : Int} {f : Bool} (h : timeB x = f) (w : World) : Calls Try.prog 73 #[.int .i64 x] w fun e w' => e = .returned (.bool f) ∧ w' = w := by
  subst h
  go_enter Try.func73, Try.ntmps73
  go_wp2_with (first | (go_at_call 66; refine (in_any _ _ _ _).mono ?_; rintro e w2 ⟨rfl, rfl⟩))
  go_ret
  exact ⟨rfl, rfl⟩
theorem sSg_is {x : Int} {f : Bool} (h : s10B x = f) (w : World) : Calls Try.prog 76 #[.int .i64 x] w fun e w' => e = .returned (.bool f) ∧ w' = w := by
  subst h
  go_enter Try.func76, Try.ntmps76
  go_wp2_with (first | (go_at_call 66; refine (in_any _ _ _ _).mono ?_; rintro e w2 ⟨rfl, rfl⟩))
  go_ret
  exact ⟨rfl, rfl⟩
theorem iKind_is {x : Int} {f : Bool} (h : kindB x = f) (w : World) : Calls Try.prog 68 #[.int .i64 x] w fun e w' => e = .returned (.bool f) ∧ w' = w := by
  subst h
  go_enter Try.func68, Try.ntmps68
  go_wp2_with (first | (go_at_call 60; refine (iwithin_any _ _ _ _).mono ?_; rintro e w2 ⟨rfl, rfl⟩))
  go_ret
  exact ⟨rfl, rfl⟩
theorem iOpen_is {x : Int} {f : Bool} (h : openB x = f) (w : World) : Calls Try.prog 69 #[.int .i64 x] w fun e w' => e = .returned (.bool f) ∧ w' = w := by
  subst h
  go_enter Try.func69, Try.ntmps69
  go_wp2_with (first | (go_at_call 60; refine (iwithin_any _ _ _ _).mono ?_; rintro e w2 ⟨rfl, rfl⟩))
  go_ret
  exact ⟨rfl, rfl⟩
theorem iWin_is {x : Int} {f : Bool} (h : w10B x = f) (w : World) : Calls Try.prog 70 #[.int .i64 x] w fun e w' => e = .returned (.bool f) ∧ w' = w := by
  subst h
  go_enter Try.func70, Try.ntmps70
  go_wp2_with (first | (go_at_call 60; refine (iwithin_any _ _ _ _).mono ?_; rintro e w2 ⟨rfl, rfl⟩))
  go_ret
  exact ⟨rfl, rfl⟩
theorem iTim_is {x : Int} {f : Bool} (h : timeB x = f) (w : World) : Calls Try.prog 59 #[.int .i64 x] w fun e w' => e = .returned (.bool f) ∧ w' = w := by
  subst h
  go_enter Try.func59, Try.ntmps59
  go_wp2_with (first | (go_at_call 60; refine (iwithin_any _ _ _ _).mono ?_; rintro e w2 ⟨rfl, rfl⟩))
  go_ret
  exact ⟨rfl, rfl⟩
theorem iSg_is {x : Int} {f : Bool} (h : s10B x = f) (w : World) : Calls Try.prog 75 #[.int .i64 x] w fun e w' => e = .returned (.bool f) ∧ w' = w := by
  subst h
  go_enter Try.func75, Try.ntmps75
  go_wp2_with (first | (go_at_call 60; refine (iwithin_any _ _ _ _).mono ?_; rintro e w2 ⟨rfl, rfl⟩))
  go_ret
  exact ⟨rfl, rfl⟩
theorem sKind_is {x : Int} {f : Bool} (h : kindB x = f) (w : World) : Calls Try.prog 66 #[.int .i64 x, .int .i64 1, .int .i64 3] w fun e w' => e = .returned (.bool f) ∧ w' = w := by subst h; exact in_any 1 x 3 w
set_option maxHeartbeats 4000000 in
theorem specCcOk_any (k wn th fl ac la og st fr : Int) (sl : Bool) (w : World) : Calls Try.prog 23 #[.agg #[.int .i64 k, .int .i64 wn, .int .i64 th, .int .i64 fl, .int .i64 ac, .int .i64 la, .int .i64 og, .int .i64 st, .int .i64 fr, .bool sl]] w fun e w' => e = .returned (.bool (ccB k wn th fl ac la og st fr)) ∧ w' = w.alloc (.cells #[.int .i64 k, .int .i64 wn, .int .i64 th, .int .i64 fl, .int .i64 ac, .int .i64 la, .int .i64 og, .int .i64 st, .int .i64 fr, .bool sl] 31) := by
  have key : ∀ fk fwn fth ffl fac fla fog ffr fst : Bool, kindB k = fk → openB wn = fwn → openB th = fth → w10B fl = ffl → w10B ac = fac → w10B la = fla → w10B og = fog → w10B fr = ffr → timeB st = fst → Calls Try.prog 23 #[.agg #[.int .i64 k, .int .i64 wn, .int .i64 th, .int .i64 fl, .int .i64 ac, .int .i64 la, .int .i64 og, .int .i64 st, .int .i64 fr, .bool sl]] w fun e w' => e = .returned (.bool (((((((((fk && fwn) && fth) && ffl) && fac) && fla) && fog) && ffr) && fst))) ∧ w' = w.alloc (.cells #[.int .i64 k, .int .i64 wn, .int .i64 th, .int .i64 fl, .int .i64 ac, .int .i64 la, .int .i64 og, .int .i64 st, .int .i64 fr, .bool sl] 31) := by
    intro fk fwn fth ffl fac fla fog ffr fst hk hwn hth hfl hac hla hog hfr hst
    cases fk
    · go_enter Try.func23, Try.ntmps23
      go_wp2_with (first
        | (go_at_call 66; refine (sKind_is hk _).mono ?_; rintro e w2 ⟨rfl, rfl⟩))
      go_ret
      exact ⟨rfl, rfl⟩
    cases fwn
    · go_enter Try.func23, Try.ntmps23
      go_wp2_with (first
        | (go_at_call 66; refine (sKind_is hk _).mono ?_; rintro e w2 ⟨rfl, rfl⟩)
        | (go_at_call 71; refine (sBig_is hwn _).mono ?_; rintro e w2 ⟨rfl, rfl⟩))
      go_ret
      exact ⟨rfl, rfl⟩
    cases fth
    · go_enter Try.func23, Try.ntmps23
      go_wp2_with (first
        | (go_at_call 66; refine (sKind_is hk _).mono ?_; rintro e w2 ⟨rfl, rfl⟩)
        | (go_at_call 71; refine (sBig_is hwn _).mono ?_; rintro e w2 ⟨rfl, rfl⟩)
        | (go_at_call 71; refine (sBig_is hth _).mono ?_; rintro e w2 ⟨rfl, rfl⟩))
      go_ret
      exact ⟨rfl, rfl⟩
    cases ffl
    · go_enter Try.func23, Try.ntmps23
      go_wp2_with (first
        | (go_at_call 66; refine (sKind_is hk _).mono ?_; rintro e w2 ⟨rfl, rfl⟩)
        | (go_at_call 71; refine (sBig_is hwn _).mono ?_; rintro e w2 ⟨rfl, rfl⟩)
        | (go_at_call 71; refine (sBig_is hth _).mono ?_; rintro e w2 ⟨rfl, rfl⟩)
        | (go_at_call 72; refine (sWin_is hfl _).mono ?_; rintro e w2 ⟨rfl, rfl⟩))
      go_ret
      exact ⟨rfl, rfl⟩
    cases fac
    · go_enter Try.func23, Try.ntmps23
      go_wp2_with (first
        | (go_at_call 66; refine (sKind_is hk _).mono ?_; rintro e w2 ⟨rfl, rfl⟩)
        | (go_at_call 71; refine (sBig_is hwn _).mono ?_; rintro e w2 ⟨rfl, rfl⟩)
        | (go_at_call 71; refine (sBig_is hth _).mono ?_; rintro e w2 ⟨rfl, rfl⟩)
        | (go_at_call 72; refine (sWin_is hfl _).mono ?_; rintro e w2 ⟨rfl, rfl⟩)
        | (go_at_call 72; refine (sWin_is hac _).mono ?_; rintro e w2 ⟨rfl, rfl⟩))
      go_ret
      exact ⟨rfl, rfl⟩
    cases fla
    · go_enter Try.func23, Try.ntmps23
      go_wp2_with (first
        | (go_at_call 66; refine (sKind_is hk _).mono ?_; rintro e w2 ⟨rfl, rfl⟩)
        | (go_at_call 71; refine (sBig_is hwn _).mono ?_; rintro e w2 ⟨rfl, rfl⟩)
        | (go_at_call 71; refine (sBig_is hth _).mono ?_; rintro e w2 ⟨rfl, rfl⟩)
        | (go_at_call 72; refine (sWin_is hfl _).mono ?_; rintro e w2 ⟨rfl, rfl⟩)
        | (go_at_call 72; refine (sWin_is hac _).mono ?_; rintro e w2 ⟨rfl, rfl⟩)
        | (go_at_call 72; refine (sWin_is hla _).mono ?_; rintro e w2 ⟨rfl, rfl⟩))
      go_ret
      exact ⟨rfl, rfl⟩
    cases fog
    · go_enter Try.func23, Try.ntmps23
      go_wp2_with (first
        | (go_at_call 66; refine (sKind_is hk _).mono ?_; rintro e w2 ⟨rfl, rfl⟩)
        | (go_at_call 71; refine (sBig_is hwn _).mono ?_; rintro e w2 ⟨rfl, rfl⟩)
        | (go_at_call 71; refine (sBig_is hth _).mono ?_; rintro e w2 ⟨rfl, rfl⟩)
        | (go_at_call 72; refine (sWin_is hfl _).mono ?_; rintro e w2 ⟨rfl, rfl⟩)
        | (go_at_call 72; refine (sWin_is hac _).mono ?_; rintro e w2 ⟨rfl, rfl⟩)
        | (go_at_call 72; refine (sWin_is hla _).mono ?_; rintro e w2 ⟨rfl, rfl⟩)
        | (go_at_call 72; refine (sWin_is hog _).mono ?_; rintro e w2 ⟨rfl, rfl⟩))
      go_ret
      exact ⟨rfl, rfl⟩
    cases ffr
    · go_enter Try.func23, Try.ntmps23
      go_wp2_with (first
        | (go_at_call 66; refine (sKind_is hk _).mono ?_; rintro e w2 ⟨rfl, rfl⟩)
        | (go_at_call 71; refine (sBig_is hwn _).mono ?_; rintro e w2 ⟨rfl, rfl⟩)
        | (go_at_call 71; refine (sBig_is hth _).mono ?_; rintro e w2 ⟨rfl, rfl⟩)
        | (go_at_call 72; refine (sWin_is hfl _).mono ?_; rintro e w2 ⟨rfl, rfl⟩)
        | (go_at_call 72; refine (sWin_is hac _).mono ?_; rintro e w2 ⟨rfl, rfl⟩)
        | (go_at_call 72; refine (sWin_is hla _).mono ?_; rintro e w2 ⟨rfl, rfl⟩)
        | (go_at_call 72; refine (sWin_is hog _).mono ?_; rintro e w2 ⟨rfl, rfl⟩)
        | (go_at_call 72; refine (sWin_is hfr _).mono ?_; rintro e w2 ⟨rfl, rfl⟩))
      go_ret
      exact ⟨rfl, rfl⟩
    cases fst
    · go_enter Try.func23, Try.ntmps23
      go_wp2_with (first
        | (go_at_call 66; refine (sKind_is hk _).mono ?_; rintro e w2 ⟨rfl, rfl⟩)
        | (go_at_call 71; refine (sBig_is hwn _).mono ?_; rintro e w2 ⟨rfl, rfl⟩)
        | (go_at_call 71; refine (sBig_is hth _).mono ?_; rintro e w2 ⟨rfl, rfl⟩)
        | (go_at_call 72; refine (sWin_is hfl _).mono ?_; rintro e w2 ⟨rfl, rfl⟩)
        | (go_at_call 72; refine (sWin_is hac _).mono ?_; rintro e w2 ⟨rfl, rfl⟩)
        | (go_at_call 72; refine (sWin_is hla _).mono ?_; rintro e w2 ⟨rfl, rfl⟩)
        | (go_at_call 72; refine (sWin_is hog _).mono ?_; rintro e w2 ⟨rfl, rfl⟩)
        | (go_at_call 72; refine (sWin_is hfr _).mono ?_; rintro e w2 ⟨rfl, rfl⟩)
        | (go_at_call 73; refine (sTim_is hst _).mono ?_; rintro e w2 ⟨rfl, rfl⟩))
      go_ret
      exact ⟨rfl, rfl⟩
    go_enter Try.func23, Try.ntmps23
    go_wp2_with (first
      | (go_at_call 66; refine (sKind_is hk _).mono ?_; rintro e w2 ⟨rfl, rfl⟩)
      | (go_at_call 71; refine (sBig_is hwn _).mono ?_; rintro e w2 ⟨rfl, rfl⟩)
      | (go_at_call 71; refine (sBig_is hth _).mono ?_; rintro e w2 ⟨rfl, rfl⟩)
      | (go_at_call 72; refine (sWin_is hfl _).mono ?_; rintro e w2 ⟨rfl, rfl⟩)
      | (go_at_call 72; refine (sWin_is hac _).mono ?_; rintro e w2 ⟨rfl, rfl⟩)
      | (go_at_call 72; refine (sWin_is hla _).mono ?_; rintro e w2 ⟨rfl, rfl⟩)
      | (go_at_call 72; refine (sWin_is hog _).mono ?_; rintro e w2 ⟨rfl, rfl⟩)
      | (go_at_call 72; refine (sWin_is hfr _).mono ?_; rintro e w2 ⟨rfl, rfl⟩)
      | (go_at_call 73; refine (sTim_is hst _).mono ?_; rintro e w2 ⟨rfl, rfl⟩))
    go_ret
    exact ⟨rfl, rfl⟩
  exact key _ _ _ _ _ _ _ _ _ rfl rfl rfl rfl rfl rfl rfl rfl rfl
theorem specCcOk_is {k wn th fl ac la og st fr : Int} {f : Bool} (h : ccB k wn th fl ac la og st fr = f) (sl : Bool) (w : World) : Calls Try.prog 23 #[.agg #[.int .i64 k, .int .i64 wn, .int .i64 th, .int .i64 fl, .int .i64 ac, .int .i64 la, .int .i64 og, .int .i64 st, .int .i64 fr, .bool sl]] w fun e w' => e = .returned (.bool f) ∧ w' = w.alloc (.cells #[.int .i64 k, .int .i64 wn, .int .i64 th, .int .i64 fl, .int .i64 ac, .int .i64 la, .int .i64 og, .int .i64 st, .int .i64 fr, .bool sl] 31) := by
  subst h; exact specCcOk_any k wn th fl ac la og st fr sl w
end Go.Proofs.Ytiibafphgjlffae
