/- What spec.FilterOk answers. -/
import Derived.Test.YtiibafphgjlffafSpecFilter
namespace Go.Proofs.Ytiibafphgjlffaf
open Go.ChangeShapes Go.WideShapes Go.ChangeAt Go.RowKit
set_option maxRecDepth 100000
set_option linter.unusedVariables false

def smpB (x : Int × Int) : Bool := timeB x.1 && rateB x.2
def stepB (most : Bool) (p s : Int × Int) : Bool := decide (p.1 < s.1) && (if most = true then decide (s.2 < p.2) else decide (p.2 < s.2))
/-- The first k are right. -/
def OkTo (most : Bool) (xs : List (Int × Int)) (k : Nat) : Prop := ∀ i (h : i < xs.length), i < k → smpB xs[i] = true ∧ (∀ j (hj : j < xs.length), j + 1 = i → stepB most xs[j] xs[i] = true)
def FOk (most : Bool) (xs : List (Int × Int)) : Prop := xs.length ≤ 100 ∧ OkTo most xs xs.length
theorem OkTo.next {most : Bool} {xs : List (Int × Int)} {k : Nat} (h : OkTo most xs k) (hk : k < xs.length) (hs : smpB xs[k] = true) (hj : ∀ j (hj : j < xs.length), j + 1 = k → stepB most xs[j] xs[k] = true) : OkTo most xs (k + 1) := by
  intro i hi hik
  by_cases e : i = k
  · subst e; exact ⟨hs, hj⟩
  · exact h i hi (by omega)
theorem step_cases (most : Bool) (r s p q : Int) : (p ≤ r ∧ stepB most (r, s) (p, q) = false) ∨ (r < p ∧ most = true ∧ s ≤ q ∧ stepB most (r, s) (p, q) = false) ∨ (r < p ∧ most = true ∧ q < s ∧ stepB most (r, s) (p, q) = true) ∨
    (r < p ∧ most = false ∧ q ≤ s ∧ stepB most (r, s) (p, q) = false) ∨ (r < p ∧ most = false ∧ s < q ∧ stepB most (r, s) (p, q) = true) := by
  unfold stepB
  by_cases h : r < p
  · cases most
    · by_cases h2 : s < q
      · exact .inr (.inr (.inr (.inr ⟨h, rfl, h2, by simp [h, h2]⟩)))
      · exact .inr (.inr (.inr (.inl ⟨h, rfl, by omega, by simp [h2]⟩)))
    · by_cases h2 : q < s
      · exact .inr (.inr (.inl ⟨h, rfl, h2, by simp [h, h2]⟩))
      · exact .inr (.inl ⟨h, rfl, by omega, by simp [h2]⟩)
  · exact .inl ⟨by omega, by simp [h]⟩
def OkPost (most : Bool) (xs : List (Int × Int)) (w : World) (e : Ending) (w' : World) : Prop := ∃ f : Bool, e = .returned (.bool f) ∧ (f = true ↔ FOk most xs) ∧ Below w.heap.size w w'
theorem OkPost.no {most : Bool} {xs : List (Int × Int)} {w w' : World} (h : ¬ FOk most xs) (hb : Below w.heap.size w w') : OkPost most xs w (.returned (.bool false)) w' := ⟨false, rfl, ⟨fun h => (by cases h), fun k => absurd k h⟩, hb⟩
theorem OkPost.yes {most : Bool} {xs : List (Int × Int)} {w w' : World} (h : FOk most xs) (hb : Below w.heap.size w w') : OkPost most xs w (.returned (.bool true)) w' := ⟨true, rfl, ⟨fun _ => h, fun _ => rfl⟩, hb⟩
theorem lt_of_alloc {w w' : World} {o : Obj} (h : Below (w.alloc o).heap.size (w.alloc o) w') : w.heap.size < w'.heap.size := by
  have := h.size
  simp at this
  omega
end Go.Proofs.Ytiibafphgjlffaf
