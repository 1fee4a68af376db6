/- What chapter 10's CcOk and NewCc answer, spec's and impl's. -/
import Derived.Test.YtoeiheccmpjclafCc
namespace Go.Proofs.Ytoeiheccmpjclaf
open Go.ChangeShapes Go.WideShapes Go.ChangeAt Go.RowKit
set_option maxRecDepth 100000
set_option linter.unusedVariables false

def kindB (x : Int) : Bool := decide (1 ≤ x) && decide (x ≤ 3)
def openB (x : Int) : Bool := decide (3000 ≤ x) && decide (x ≤ 1000000000)
def w10B (x : Int) : Bool := decide (0 ≤ x) && decide (x ≤ 1000000000)
def s10B (x : Int) : Bool := decide (1 ≤ x) && decide (x ≤ 1500)
/-- When a Cc is right. -/
def ccB (k wn th fl ac la og st fr : Int) : Bool := ((((((((kindB k && openB wn) && openB th) && w10B fl) && w10B ac) && w10B la) && w10B og) && w10B fr) && timeB st)
theorem cc_num {k wn th fl ac la og st fr : Int} (h : ccB k wn th fl ac la og st fr = true) : (1 ≤ k ∧ k ≤ 3) ∧ (3000 ≤ wn ∧ wn ≤ 1000000000) ∧ (3000 ≤ th ∧ th ≤ 1000000000) ∧ (0 ≤ fl ∧ fl ≤ 1000000000) ∧ (0 ≤ ac ∧ ac ≤ 1000000000) ∧ (0 ≤ la ∧ la ≤ 1000000000) ∧ (0 ≤ og ∧ og ≤ 1000000000) ∧ (0 ≤ st ∧ st ≤ 1000000000000000) ∧ (0 ≤ fr ∧ fr ≤ 1000000000) := by
  unfold ccB kindB openB w10B timeB at h
  simp only [Bool.and_eq_true, decide_eq_true_eq] at h
  omega
theorem sBig_is {x : Int} {f : Bool} (h : openB x = f) (w : World) : Calls Try.prog 76 #[.int .i64 x] w fun e w' => e = .returned (.bool f) ∧ w' = w := by
  subst h
  go_enter Try.func76, Try.ntmps76
  go_wp2_with (first | (go_at_call 50; refine (in_any _ _ _ _).mono ?_; rintro e w2 ⟨rfl, rfl⟩))
  go_ret
  exact ⟨rfl, rfl⟩
theorem sWin_is {x : Int} {f : Bool} (h : w10B x = f) (w : World) : Calls Try.prog 58 #[.int .i64 x] w fun e w' => e = .returned (.bool f) ∧ w' = w := by
  subst h
  go_enter Try.func58, Try.ntmps58
  go_wp2_with (first | (go_at_call 50; refine (in_any _ _ _ _).mono ?_; rintro e w2 ⟨rfl, rfl⟩))
  go_ret
  exact ⟨rfl, rfl⟩
theorem sTim_is {x : Int} {f : Bool} (h : timeB x = f) (w : World) : Calls Try.prog 35 #[.int .i64 x] w fun e w' => e = .returned (.bool f) ∧ w' = w := by
  subst h
  go_enter Try.func35, Try.ntmps35
  go_wp2_with (first | (go_at_call 50; refine (in_any _ _ _ _).mono ?_; rintro e w2 ⟨rfl, rfl⟩))
  go_ret
  exact ⟨rfl, rfl⟩
theorem sSg_is {x : Int} {f : Bool} (h : s10B x = f) (w : World) : Calls Try.prog 79 #[.int .i64 x] w fun e w' => e = .returned (.bool f) ∧ w' = w := by
  subst h
  go_enter Try.func79, Try.ntmps79
  go_wp2_with (first | (go_at_call 50; refine (in_any _ _ _ _).mono ?_; rintro e w2 ⟨rfl, rfl⟩))
  go_ret
  exact ⟨rfl, rfl⟩
theorem iOpen_is {x : Int} {f : Bool} (h : openB x = f) (w : World) : Calls Try.prog 60 #[.int .i64 x] w fun e w' => e = .returned (.bool f) ∧ w' = w := by
  subst h
  go_enter Try.func60, Try.ntmps60
  go_wp2_with (first | (go_at_call 37; refine (iwithin_any _ _ _ _).mono ?_; rintro e w2 ⟨rfl, rfl⟩))
  go_ret
  exact ⟨rfl, rfl⟩
theorem iWin_is {x : Int} {f : Bool} (h : w10B x = f) (w : World) : Calls Try.prog 55 #[.int .i64 x] w fun e w' => e = .returned (.bool f) ∧ w' = w := by
  subst h
  go_enter Try.func55, Try.ntmps55
  go_wp2_with (first | (go_at_call 37; refine (iwithin_any _ _ _ _).mono ?_; rintro e w2 ⟨rfl, rfl⟩))
  go_ret
  exact ⟨rfl, rfl⟩
theorem iTim_is {x : Int} {f : Bool} (h : timeB x = f) (w : World) : Calls Try.prog 34 #[.int .i64 x] w fun e w' => e = .returned (.bool f) ∧ w' = w := by
  subst h
  go_enter Try.func34, Try.ntmps34
  go_wp2_with (first | (go_at_call 37; refine (iwithin_any _ _ _ _).mono ?_; rintro e w2 ⟨rfl, rfl⟩))
  go_ret
  exact ⟨rfl, rfl⟩
theorem iSg_is {x : Int} {f : Bool} (h : s10B x = f) (w : World) : Calls Try.prog 66 #[.int .i64 x] w fun e w' => e = .returned (.bool f) ∧ w' = w := by
  subst h
  go_enter Try.func66, Try.ntmps66
  go_wp2_with (first | (go_at_call 37; refine (iwithin_any _ _ _ _).mono ?_; rintro e w2 ⟨rfl, rfl⟩))
  go_ret
  exact ⟨rfl, rfl⟩
theorem sKind_is {x : Int} {f : Bool} (h : kindB x = f) (w : World) : Calls Try.prog 50 #[.int .i64 x, .int .i64 1, .int .i64 3] w fun e w' => e = .returned (.bool f) ∧ w' = w := by subst h; exact in_any 1 x 3 w
end Go.Proofs.Ytoeiheccmpjclaf
