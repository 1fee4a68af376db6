/- What Push answers, impl's and spec's, at every argument. -/
import Derived.Test.YtiibafphgjlffaeImplPush
namespace Go.Proofs.Ytiibafphgjlffae
open Go.ChangeShapes Go.WideShapes Go.ChangeAt Go.RowKit
set_option maxRecDepth 100000
set_option linter.unusedVariables false

theorem specPush_yes {w : World} {a : Option Addr} (cap : Nat) {xs : List (Int × Int)} {p q win : Int} {most : Bool} (h : Smp w.heap.size w a xs) (hP : PushOk most xs (p, q) win) :
    Calls Try.prog 96 #[.agg #[.slice a xs.length cap], .agg #[.int .i64 p, .int .i64 q], .int .i64 win, .bool most] w (YesPost w (pushOf most xs (p, q) win)) :=
  specPush_ok cap p q win most h hP.1 hP.2.1 hP.2.2.1 hP.2.2.2
theorem implPush_yes {w : World} {a : Option Addr} (cap : Nat) {xs : List (Int × Int)} {p q win : Int} {most : Bool} (h : Smp w.heap.size w a xs) (hlc : xs.length ≤ cap) (hn : a = none → cap = 0) (hP : PushOk most xs (p, q) win) :
    Calls Try.prog 91 #[.agg #[.slice a xs.length cap], .agg #[.int .i64 p, .int .i64 q], .int .i64 win, .bool most] w (YesPost w (pushOf most xs (p, q) win)) :=
  implPush_ok cap p q win most h hlc hn hP.1 hP.2.1 hP.2.2.1 hP.2.2.2
theorem not_push {most : Bool} {xs : List (Int × Int)} {p q win : Int} (hP : ¬ PushOk most xs (p, q) win) : (¬ FOk most xs) ∨ (FOk most xs ∧ smpB (p, q) = false) ∨ (FOk most xs ∧ smpB (p, q) = true ∧ timeB win = false) ∨ (FOk most xs ∧ smpB (p, q) = true ∧ timeB win = true ∧ p < lastAt xs) := by
  by_cases h1 : FOk most xs
  · cases h2 : smpB (p, q)
    · exact .inr (.inl ⟨h1, rfl⟩)
    · cases h3 : timeB win
      · exact .inr (.inr (.inl ⟨h1, rfl, rfl⟩))
      · refine .inr (.inr (.inr ⟨h1, rfl, rfl, ?_⟩))
        rcases Int.lt_or_le p (lastAt xs) with h | h
        · exact h
        · exact absurd ⟨h1, h2, h3, h⟩ hP
  · exact .inl h1
theorem specPush_no {w : World} {a : Option Addr} (cap : Nat) {xs : List (Int × Int)} {p q win : Int} {most : Bool} (h : Smp w.heap.size w a xs) (hP : ¬ PushOk most xs (p, q) win) :
    Calls Try.prog 96 #[.agg #[.slice a xs.length cap], .agg #[.int .i64 p, .int .i64 q], .int .i64 win, .bool most] w (NoPost w) := by
  rcases not_push hP with h1 | ⟨h1, h2⟩ | ⟨h1, h2, h3⟩ | ⟨h1, h2, h3, h4⟩
  · exact specPush_bad cap p q win most h h1
  · exact specPush_smp cap p q win most h h1 h2
  · exact specPush_win cap p q win most h h1 h2 h3
  · rcases xs.eq_nil_or_concat with rfl | ⟨ys, x, hxy⟩
    · have := smp_pos h2
      unfold lastAt at h4
      simp only [List.getLast?_nil] at h4
      omega
    · obtain ⟨r, s⟩ := x
      have hlen : xs.length = ys.length + 1 := by rw [hxy]; simp
      have hlr : lastAt xs = r := by rw [hxy]; unfold lastAt; simp
      have hr : ∀ (hh : ys.length < xs.length), xs[ys.length] = (r, s) := by subst hxy; intro hh; simp
      have e := specPush_late cap p q win most h ys.length hlen r s (hr (by omega)) h1 h2 h3 (decide_eq_true (by omega))
      rw [← hlen] at e
      exact e
theorem implPush_no {w : World} {a : Option Addr} (cap : Nat) {xs : List (Int × Int)} {p q win : Int} {most : Bool} (h : Smp w.heap.size w a xs) (hP : ¬ PushOk most xs (p, q) win) :
    Calls Try.prog 91 #[.agg #[.slice a xs.length cap], .agg #[.int .i64 p, .int .i64 q], .int .i64 win, .bool most] w (NoPost w) := by
  rcases not_push hP with h1 | ⟨h1, h2⟩ | ⟨h1, h2, h3⟩ | ⟨h1, h2, h3, h4⟩
  · exact implPush_bad cap p q win most h h1
  · exact implPush_smp cap p q win most h h1 h2
  · exact implPush_win cap p q win most h h1 h2 h3
  · exact implPush_late cap p q win most h h1 h2 h3 h4
end Go.Proofs.Ytiibafphgjlffae
