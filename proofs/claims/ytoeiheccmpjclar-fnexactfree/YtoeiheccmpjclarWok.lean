/- When a wheel is right, as mathematics. -/
import Derived.Test.YtoeiheccmpjclarSmp
namespace Go.Proofs.Ytoeiheccmpjclar
open Go.ChangeShapes Go.WideShapes Go.ChangeAt Go.RowKit
set_option maxRecDepth 100000
set_option linter.unusedVariables false

def idB (x : Int) : Bool := decide (0 ≤ x) && decide (x ≤ 1000000)
def befB (a b : Int × Int) : Bool := decide (a.2 < b.2) || (decide (a.2 = b.2) && decide (a.1 < b.1))
def timB (now : Int) (x : Int × Int) : Bool := (idB x.1 && timeB x.2) && decide (now < x.2)
/-- The first k timers are right. -/
def WTo (now : Int) (xs : List (Int × Int)) (k : Nat) : Prop := ∀ i (h : i < xs.length), i < k → timB now xs[i] = true ∧ (∀ j (hj : j < xs.length), j + 1 = i → befB xs[j] xs[i] = true) ∧ (∀ j (hj : j < xs.length), j < i → xs[j].1 ≠ xs[i].1)
def WOk (now : Int) (xs : List (Int × Int)) : Prop := timeB now = true ∧ xs.length ≤ 200 ∧ WTo now xs xs.length
theorem WTo.next {now : Int} {xs : List (Int × Int)} {k : Nat} (h : WTo now xs k) (hk : k < xs.length) (h1 : timB now xs[k] = true) (h2 : ∀ j (hj : j < xs.length), j + 1 = k → befB xs[j] xs[k] = true) (h3 : ∀ j (hj : j < xs.length), j < k → xs[j].1 ≠ xs[k].1) : WTo now xs (k + 1) := by
  intro i hi hik
  by_cases e : i = k
  · subst e; exact ⟨h1, h2, h3⟩
  · exact h i hi (by omega)
theorem bef_cases (p q r s : Int) : (q < s ∧ befB (p, q) (r, s) = true) ∨ (q = s ∧ befB (p, q) (r, s) = decide (p < r)) ∨ (s < q ∧ befB (p, q) (r, s) = false) := by
  unfold befB
  by_cases h : q < s
  · exact .inl ⟨h, by simp [h]⟩
  · by_cases h2 : q = s
    · exact .inr (.inl ⟨h2, by simp [h2]⟩)
    · exact .inr (.inr ⟨by omega, by simp [h, h2]⟩)
def WPost (now : Int) (xs : List (Int × Int)) (w : World) (e : Ending) (w' : World) : Prop := ∃ f : Bool, e = .returned (.bool f) ∧ (f = true ↔ WOk now xs) ∧ Below w.heap.size w w'
theorem WPost.no {now : Int} {xs : List (Int × Int)} {w w' : World} (h : ¬ WOk now xs) (hb : Below w.heap.size w w') : WPost now xs w (.returned (.bool false)) w' := ⟨false, rfl, ⟨fun h => (by cases h), fun k => absurd k h⟩, hb⟩
theorem WPost.yes {now : Int} {xs : List (Int × Int)} {w w' : World} (h : WOk now xs) (hb : Below w.heap.size w w') : WPost now xs w (.returned (.bool true)) w' := ⟨true, rfl, ⟨fun _ => h, fun _ => rfl⟩, hb⟩
theorem below_drews {B : Nat} {w w' : World} (h : Below B w w') (n : Nat) : Below B w (w'.drewN n) := ⟨h.os, h.tape, h.output, h.size, h.block⟩
end Go.Proofs.Ytoeiheccmpjclar
