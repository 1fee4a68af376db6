/- Lemmas on the way, of several texts: SpecPlc2, SpecPlc3. -/
import Derived.Test.YtibfclfidaofkasSpecPlc
import Derived.Test.YtibfclfidaofkasFlwRow
import Derived.Test.YtibfclfidaofkasLate
namespace Go.Proofs.Ytibfclfidaofkas
open Go.ChangeShapes Go.WideShapes Go.ChangeAt Go.RowKit
set_option maxRecDepth 100000
set_option linter.unusedVariables false
set_option linter.unusedSimpArgs false

theorem specPlaceOk_is {wd fl : Int} {w : World} {a : Option Addr} (cap : Nat) {xs : List Int} {f : Bool} (hf : plB wd fl xs = f) (smp : ISmp w.heap.size w a xs) : Calls Try.prog 25 #[.agg #[.int .i64 wd, .int .i64 fl, .slice a xs.length cap]] w fun e w' => e = .returned (.bool f) ∧ Below w.heap.size w w' := by subst hf; exact specPlaceOk_any cap smp
theorem pl_num {wd fl : Int} {xs : List Int} (h : plB wd fl xs = true) : (3000 ≤ wd ∧ wd ≤ 1000000000) ∧ (0 ≤ fl ∧ fl ≤ 1000000000) ∧ xs.length ≤ 50 := by
  obtain ⟨h1, h2, h3, _⟩ := pl_yes h
  unfold openB at h1
  unfold w10B at h2
  simp only [Bool.and_eq_true, decide_eq_true_eq] at h1 h2
  exact ⟨h1, h2, h3⟩
theorem s10_num {n : Int} (h : s10B n = true) : 1 ≤ n ∧ n ≤ 1500 := by
  unfold s10B at h
  simp only [Bool.and_eq_true, decide_eq_true_eq] at h
  exact h
/-- Is there room? -/
noncomputable def roomB_SpecPlc2 (wd fl n : Int) (xs : List Int) : Bool := (plB wd fl xs && s10B n) && decide (fl + n ≤ wd)
open Classical in
noncomputable def shareAns (wd fl : Int) (xs : List Int) : Int := if plB wd fl xs = true then (if xs.length = 0 then wd else max 3000 (wd / (xs.length : Int))) else -1
/-- A Place with a list of its own, made anew. -/
def AnsP (w : World) (xs : List Int) (wd fl : Int) (e : Ending) (w' : World) : Prop := ∃ a n c, e = .returned (.agg #[.int .i64 wd, .int .i64 fl, .slice a n c]) ∧ IV w' w.heap.size (.slice a n c) xs ∧ Below w.heap.size w w'
end Go.Proofs.Ytibfclfidaofkas
namespace Go.Proofs.Ytibfclfidaofkas
open Go.ChangeShapes Go.WideShapes Go.ChangeAt Go.RowKit
set_option maxRecDepth 100000
set_option linter.unusedVariables false
set_option linter.unusedSimpArgs false

def AnsPT (w : World) (xs : List Int) (wd fl : Int) (f : Bool) (e : Ending) (w' : World) : Prop := ∃ a n c, e = .returned (.tuple #[.agg #[.int .i64 wd, .int .i64 fl, .slice a n c], .bool f]) ∧ IV w' w.heap.size (.slice a n c) xs ∧ Below w.heap.size w w'
theorem room_num {wd fl n : Int} {xs : List Int} (h : roomB_SpecPlc2 wd fl n xs = true) : plB wd fl xs = true ∧ s10B n = true ∧ fl + n ≤ wd := by
  unfold roomB_SpecPlc2 at h
  simp only [Bool.and_eq_true, decide_eq_true_eq] at h
  exact ⟨h.1.1, h.1.2, h.2⟩
def freeW (wd n : Int) (lost : Bool) : Int := if lost = true then max 3000 (wd / 2) else min 1000000000 (wd + n * 1500 / wd)
theorem inQ_num {lo x hi : Int} (h : inQ lo x hi = true) : lo ≤ x ∧ x ≤ hi := by
  unfold inQ at h
  simp only [Bool.and_eq_true, decide_eq_true_eq] at h
  exact h
end Go.Proofs.Ytibfclfidaofkas
