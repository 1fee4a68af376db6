/- Both sides at once: one wheel, one flag. -/
import Derived.Test.YtdgefdjgpneanacImplWheel
namespace Go.Proofs.Ytdgefdjgpneanac
open Go.ChangeShapes Go.WideShapes Go.ChangeAt Go.RowKit
set_option maxRecDepth 100000
set_option linter.unusedVariables false

theorem arms (now : Int) (xs : List (Int × Int)) (id at' : Int) (hl : (xs.length : Int) ≤ 9223372036854775807) : ∃ t ys f, ys.length ≤ 201 ∧
    (∀ (w : World) (a : Option Addr) (cap : Nat), Smp w.heap.size w a xs → Calls Try.prog 20 #[.agg #[.int .i64 now, .slice a xs.length cap], .int .i64 id, .int .i64 at'] w (WheelPost w t ys f)) ∧
    (∀ (w : World) (a : Option Addr) (cap : Nat), Smp w.heap.size w a xs → xs.length ≤ cap → (a = none → cap = 0) → Calls Try.prog 19 #[.agg #[.int .i64 now, .slice a xs.length cap], .int .i64 id, .int .i64 at'] w (WheelPost w t ys f)) := by
  by_cases hW : WOk now xs ∧ armOk now id at' = true ∧ (withoutOf id xs).length ≠ 200
  · obtain ⟨h1, h2, h3⟩ := hW
    have h2' := h2
    unfold armOk at h2'
    rw [Bool.and_eq_true, Bool.and_eq_true] at h2'
    exact ⟨_, _, _, by rw [ins_length]; have := without_le id xs; have := h1.2.1; omega, fun w a cap h => specArm_yes cap id at' h h1 h2'.1.1 h2'.1.2 (of_decide_eq_true h2'.2) h3, fun w a cap h hc hn => implArm_yes cap id at' h hc hn h1 h2 h3⟩
  · exact ⟨_, _, _, by simp, fun w a cap h => specArm_no cap id at' h hl hW, fun w a cap h hc hn => implArm_no cap id at' h hc hn hl hW⟩
theorem specAdvance_no {w : World} {now : Int} {a : Option Addr} (cap : Nat) {xs : List (Int × Int)} (t : Int) (h : Smp w.heap.size w a xs) (hl : (xs.length : Int) ≤ 9223372036854775807) (hW : ¬ (WOk now xs ∧ timeB t = true ∧ now ≤ t)) :
    Calls Try.prog 26 #[.agg #[.int .i64 now, .slice a xs.length cap], .int .i64 t] w (AdvPost w 0 [] []) := by
  by_cases h1 : WOk now xs
  · cases hT : timeB t
    · exact specAdvance_time cap t h h1 hT
    · exact specAdvance_late cap t h h1 hT (by
        rcases Int.lt_or_le t now with h | h
        · exact h
        · exact absurd ⟨h1, hT, h⟩ hW)
  · exact specAdvance_bad cap t h hl h1
theorem advances (now : Int) (xs : List (Int × Int)) (t' : Int) (hl : (xs.length : Int) ≤ 9223372036854775807) : ∃ t ys ds, ys.length ≤ 200 ∧ ds.length ≤ 200 ∧
    (∀ (w : World) (a : Option Addr) (cap : Nat), Smp w.heap.size w a xs → Calls Try.prog 26 #[.agg #[.int .i64 now, .slice a xs.length cap], .int .i64 t'] w (AdvPost w t ys ds)) ∧
    (∀ (w : World) (a : Option Addr) (cap : Nat), Smp w.heap.size w a xs → xs.length ≤ cap → (a = none → cap = 0) → Calls Try.prog 23 #[.agg #[.int .i64 now, .slice a xs.length cap], .int .i64 t'] w (AdvPost w t ys ds)) := by
  by_cases hW : WOk now xs ∧ timeB t' = true ∧ now ≤ t'
  · obtain ⟨h1, h2, h3⟩ := hW
    have hlen := h1.2.1
    exact ⟨_, _, _, by rw [← rest_all]; exact Nat.le_trans (rest_le _ _ _) hlen, by rw [← due_all]; exact Nat.le_trans (due_le _ _ _) hlen, fun w a cap h => specAdvance_yes cap t' h h1 h2 h3, fun w a cap h hc hn => implAdvance_yes cap t' h hc hn h1 h2 h3⟩
  · exact ⟨_, _, _, by simp, by simp, fun w a cap h => specAdvance_no cap t' h hl hW, fun w a cap h hc hn => implAdvance_no cap t' h hc hn hl hW⟩
end Go.Proofs.Ytdgefdjgpneanac
