/- Lists of samples in memory: pairs of numbers of 64 bits. -/
import Derived.Test.YtoeiheccmpjclarFrame
import Derived.Test.YtoeiheccmpjclarNew
namespace Go.Proofs.Ytoeiheccmpjclar
open Go.ChangeShapes Go.WideShapes Go.ChangeAt Go.RowKit
set_option maxRecDepth 100000
set_option linter.unusedVariables false

/-- The pairs xs lie at a, below block B. -/
def Smp (B : Nat) (w : World) (a : Option Addr) (xs : List (Int × Int)) : Prop :=
  ∀ i (h : i < xs.length), ∃ b off, a = some ⟨b, off, none⟩ ∧ b < B ∧ w.cell? ⟨b, off + i * 2, none⟩ = some (.int .i64 xs[i].1) ∧ w.cell? ⟨b, off + i * 2 + 1, none⟩ = some (.int .i64 xs[i].2)
theorem Smp.first {B : Nat} {w : World} {a : Option Addr} {x : Int × Int} {xs : List (Int × Int)} (h : Smp B w a (x :: xs)) (hB : B ≤ w.heap.size) :
    ∃ b off, a = some ⟨b, off, none⟩ ∧ b < w.heap.size ∧ w.cell? ⟨b, off, none⟩ = some (.int .i64 x.1) ∧ w.cell? ⟨b, off + 1, none⟩ = some (.int .i64 x.2) := by
  obtain ⟨b, off, rfl, hb, c0, c1⟩ := h 0 (by simp)
  exact ⟨b, off, rfl, by omega, by simpa using c0, by simpa using c1⟩
def bestOf (xs : List (Int × Int)) : Int := match xs with | [] => 0 | x :: _ => x.2
/-- How long ago the first one was. -/
def timeB (x : Int) : Bool := decide (0 ≤ x) && decide (x ≤ 1000000000000000)
def rateB (x : Int) : Bool := decide (0 ≤ x) && decide (x ≤ 1000000000000)
def sinceOf (xs : List (Int × Int)) (at' : Int) : Int := match xs with | [] => -1 | x :: _ => if timeB x.1 = true ∧ timeB at' = true ∧ x.1 ≤ at' then at' - x.1 else -1
theorem in_any (lo x hi : Int) (w : World) : Calls Try.prog 28 #[.int .i64 x, .int .i64 lo, .int .i64 hi] w fun e w' => e = .returned (.bool (decide (lo ≤ x) && decide (x ≤ hi))) ∧ w' = w := by
  by_cases h1 : lo ≤ x
  · by_cases h2 : x ≤ hi
    · rw [decide_eq_true h1, decide_eq_true h2]
      go_enter Try.func28, Try.ntmps28
      go_wp2
      go_ret
      exact ⟨rfl, rfl⟩
    · have h2' : decide (x ≤ hi) = false := decide_eq_false h2
      rw [decide_eq_true h1, h2']
      go_enter Try.func28, Try.ntmps28
      go_wp2
      go_ret
      exact ⟨rfl, rfl⟩
  · have h1' : decide (lo ≤ x) = false := decide_eq_false h1
    rw [h1']
    go_enter Try.func28, Try.ntmps28
    go_wp2
    go_ret
    exact ⟨rfl, rfl⟩
end Go.Proofs.Ytoeiheccmpjclar
