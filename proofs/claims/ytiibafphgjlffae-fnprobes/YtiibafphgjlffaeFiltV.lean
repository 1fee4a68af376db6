/- Filters as values: new memory that holds items, or none; what the laws' functions answer for them. -/
import Derived.Test.YtiibafphgjlffaeEqSmp
import Derived.Test.YtiibafphgjlffaeGrpC
import Derived.Test.YtiibafphgjlffaePushBoth
namespace Go.Proofs.Ytiibafphgjlffae
open Go.ChangeShapes Go.WideShapes Go.ChangeAt Go.RowKit
set_option maxRecDepth 100000
set_option linter.unusedVariables false

/-- What Push hands back. -/
def PP (w : World) (ys : List (Int × Int)) (f : Bool) (e : Ending) (w' : World) : Prop := ∃ a n c, e = .returned (.tuple #[.agg #[.slice a n c], .bool f]) ∧ FV w' w.heap.size (.slice a n c) ys ∧ Below w.heap.size w w'
theorem push_le (most : Bool) (xs : List (Int × Int)) (s : Int × Int) (win : Int) (h : xs.length ≤ 100) : (pushOf most xs s win).length ≤ 101 := by
  have hy : ∀ (t : Int) (l : List (Int × Int)), (youngOf t l).length ≤ l.length := by
    intro t l
    induction l with
    | nil => exact Nat.le_refl _
    | cons x l ih =>
      cases ho : oldB t (x :: l)
      · rw [young_stay ho]; exact Nat.le_refl _
      · rw [young_old ho]; exact Nat.le_trans ih (by simp)
  have h1 := come_le (most := most) (xs := xs) (s := s)
  have h2 := hy (s.1 - win) (comeOf most xs s)
  unfold pushOf
  dsimp only
  split
  · rw [List.length_tail]; omega
  · omega
theorem pushes (most : Bool) (xs : List (Int × Int)) (p q win : Int) : ∃ ys f, ys.length ≤ 101 ∧
    (∀ (w : World) (a : Option Addr) (cap : Nat), Smp w.heap.size w a xs → Calls Try.prog 96 #[.agg #[.slice a xs.length cap], .agg #[.int .i64 p, .int .i64 q], .int .i64 win, .bool most] w (PP w ys f)) ∧
    (∀ (w : World) (a : Option Addr) (cap : Nat), Smp w.heap.size w a xs → xs.length ≤ cap → (a = none → cap = 0) → Calls Try.prog 91 #[.agg #[.slice a xs.length cap], .agg #[.int .i64 p, .int .i64 q], .int .i64 win, .bool most] w (PP w ys f)) := by
  have yes : ∀ {w : World} {ys : List (Int × Int)} {e : Ending} {w' : World}, YesPost w ys e w' → PP w ys true e w' := by
    rintro w ys e w' ⟨g, cap, rfl, h1, h2, h3, h4, h5⟩
    exact ⟨_, _, _, rfl, .inl ⟨g, cap, rfl, h1, h2, h3, h4⟩, h5⟩
  have no : ∀ {w : World} {e : Ending} {w' : World}, NoPost w e w' → PP w [] false e w' := by
    rintro w e w' ⟨rfl, h⟩
    exact ⟨_, _, _, rfl, .inr ⟨rfl, rfl⟩, h⟩
  by_cases hP : PushOk most xs (p, q) win
  · exact ⟨pushOf most xs (p, q) win, true, push_le _ _ _ _ hP.1.1, fun w a cap h => (specPush_yes cap h hP).mono fun e w' k => yes k, fun w a cap h hc hn => (implPush_yes cap h hc hn hP).mono fun e w' k => yes k⟩
  · exact ⟨[], false, by simp, fun w a cap h => (specPush_no cap h hP).mono fun e w' k => no k, fun w a cap h hc hn => (implPush_no cap h hP).mono fun e w' k => no k⟩
/-- A variable that holds a filter which a call of Push has handed back, and a flag. -/
def Res (v1 : World) (ys : List (Int × Int)) (f : Bool) (s t : Value) (wd : World) : Prop := ∃ b a n c, s = .pointer (some ⟨b, 0, none⟩) ∧ t = .bool f ∧ v1.heap.size ≤ b ∧ b < wd.heap.size ∧ wd.cell? ⟨b, 0, none⟩ = some (.slice a n c) ∧ FV wd v1.heap.size (.slice a n c) ys ∧ (Value.slice a n c).ownBlock ≠ some b ∧ Below v1.heap.size v1 wd
theorem res_alloc {v1 vP : World} {ys : List (Int × Int)} {f : Bool} {a : Option Addr} {n c lo : Nat} {t : TypeId} (hf : FV vP lo (.slice a n c) ys) (hl : v1.heap.size ≤ lo) (hr : Below v1.heap.size v1 vP) : Res v1 ys f (.pointer (some ⟨vP.heap.size, 0, none⟩)) (.bool f) (vP.alloc (.cells #[.slice a n c] t)) := by
  refine ⟨vP.heap.size, a, n, c, rfl, rfl, hr.size, by simp, by go_simp, (hf.lower hl).next (new_below _ _), ?_, below_step hr (new_below _ _)⟩
  intro e
  have := (hf.own e).2
  omega
theorem res_set {v1 vP : World} {ys : List (Int × Int)} {f : Bool} {a : Option Addr} {n c : Nat} {u : Value} {lo B : Nat} (hf : FV vP lo (.slice a n c) ys) (hl : v1.heap.size ≤ lo) (hr : Below v1.heap.size v1 vP) (h1 : v1.heap.size ≤ B) (h2 : B < lo) (hc : vP.cell? ⟨B, 0, none⟩ = some u) :
    Res v1 ys f (.pointer (some ⟨B, 0, none⟩)) (.bool f) (vP.setCell ⟨B, 0, none⟩ (.slice a n c)) := by
  have hB : B < vP.heap.size := World.block_lt_of_cell? vP _ hc
  refine ⟨B, a, n, c, rfl, rfl, h1, by simpa using hB, set_same _ hc, (hf.lower hl).onlyO (OnlyO.of_only ((Only.refl B vP).setCell rfl _)) ?_, ?_, hr.setCell h1 _⟩
  · intro g hg e
    have := (hf.own hg).1
    injection e with e
    omega
  · intro e
    have := (hf.own e).1
    omega
end Go.Proofs.Ytiibafphgjlffae
