/- What spec.Push answers: an earlier sample; where it says true. -/
import Derived.Test.YtiibafphgjlffapSpecPush
namespace Go.Proofs.Ytiibafphgjlffap
open Go.ChangeShapes Go.WideShapes Go.ChangeAt Go.RowKit
set_option maxRecDepth 100000
set_option linter.unusedVariables false
set_option linter.unusedSimpArgs false

theorem specFilterOk_yes' {w : World} {a : Option Addr} (cap : Nat) {n : Nat} {xs : List (Int × Int)} {most : Bool} (hn : xs.length = n) (h : Smp w.heap.size w a xs) (hF : FOk most xs) :
    Calls Try.prog 48 #[.agg #[.slice a n cap], .bool most] w fun e w' => e = .returned (.bool true) ∧ Below w.heap.size w w' := by
  subst hn
  exact specFilterOk_yes cap h hF
theorem held_next4 {w w2 : World} {b c o : Nat} {v u u' z : Value} (h : (w.cell? ⟨b, 0, none⟩ = some v ∧ w.cell? ⟨b + 1, 0, none⟩ = some u ∧ w.cell? ⟨b + 1, 1, none⟩ = some u') ∧ w.cell? ⟨c, o, none⟩ = some z) (hb : Below w.heap.size w w2) (h0 : b < w.heap.size) (h1 : b + 1 < w.heap.size) (h2 : c < w.heap.size) :
    (w2.cell? ⟨b, 0, none⟩ = some v ∧ w2.cell? ⟨b + 1, 0, none⟩ = some u ∧ w2.cell? ⟨b + 1, 1, none⟩ = some u') ∧ w2.cell? ⟨c, o, none⟩ = some z :=
  ⟨held_next h.1 hb h0 h1, (below_cells hb _ _ h2).trans h.2⟩
theorem size3 {w w' : World} {A B C : Obj} (h : Below (((w.alloc A).alloc B).alloc C).drew.heap.size (((w.alloc A).alloc B).alloc C).drew w') : w.heap.size + 2 < w'.heap.size := by
  have := h.size
  simp at this
  omega
theorem keep_cases (most : Bool) (q z : Int) : (most = true ∧ q < z ∧ ∀ p y, keepB most (p, q) (y, z) = true) ∨ (most = true ∧ z ≤ q ∧ ∀ p y, keepB most (p, q) (y, z) = false) ∨ (most = false ∧ z < q ∧ ∀ p y, keepB most (p, q) (y, z) = true) ∨ (most = false ∧ q ≤ z ∧ ∀ p y, keepB most (p, q) (y, z) = false) := by
  cases most
  · by_cases h : z < q
    · exact .inr (.inr (.inl ⟨rfl, h, fun p y => by simp [keepB, h]⟩))
    · exact .inr (.inr (.inr ⟨rfl, by omega, fun p y => by simp [keepB]; omega⟩))
  · by_cases h : q < z
    · exact .inl ⟨rfl, h, fun p y => by simp [keepB, h]⟩
    · exact .inr (.inl ⟨rfl, by omega, fun p y => by simp [keepB]; omega⟩)
def kept (most : Bool) (s : Int × Int) (xs : List (Int × Int)) (k : Nat) : List (Int × Int) := (xs.take k).filter (keepB most s)
theorem kept_le (most : Bool) (s : Int × Int) (xs : List (Int × Int)) (k : Nat) : (kept most s xs k).length ≤ xs.length := Nat.le_trans (List.length_filter_le _ _) (by rw [List.length_take]; exact Nat.min_le_right _ _)
theorem kept_yes {most : Bool} {s : Int × Int} {xs : List (Int × Int)} {k : Nat} (h : k < xs.length) (hk : keepB most s xs[k] = true) : kept most s xs (k + 1) = kept most s xs k ++ [xs[k]] := by
  unfold kept
  rw [List.take_succ_eq_append_getElem h, List.filter_append]
  simp [hk]
theorem kept_no {most : Bool} {s : Int × Int} {xs : List (Int × Int)} {k : Nat} (h : k < xs.length) (hk : keepB most s xs[k] = false) : kept most s xs (k + 1) = kept most s xs k := by
  unfold kept
  rw [List.take_succ_eq_append_getElem h, List.filter_append]
  simp [hk]
theorem pair_news {w : World} {g : Nat} {u u' : Value} (h : w.cell? ⟨g, 0, none⟩ = some u) (h' : w.cell? ⟨g, 1, none⟩ = some u') : ∀ j v, [u, u'][j]? = some v → w.cell? ((⟨g, 0, none⟩ : Addr).add j) = some v := by
  intro j v hv
  have e : (⟨g, 0, none⟩ : Addr).add j = ⟨g, j, none⟩ := by unfold Addr.add; split <;> simp_all
  rw [e]
  exact cells_two h h' j v hv
end Go.Proofs.Ytiibafphgjlffap
