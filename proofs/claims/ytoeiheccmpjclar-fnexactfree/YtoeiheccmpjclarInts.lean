/- Lists of numbers as values: new memory that holds them, or none. -/
import Derived.Test.YtoeiheccmpjclarOwnV
import Derived.Laws.AppendOwn
namespace Go.Proofs.Ytoeiheccmpjclar
open Go.ChangeShapes Go.WideShapes Go.ChangeAt Go.RowKit
set_option maxRecDepth 100000
set_option linter.unusedVariables false

def flatI (xs : List Int) : List Value := xs.map fun x => .int .i64 x
theorem flatI_append (xs ys : List Int) : flatI (xs ++ ys) = flatI xs ++ flatI ys := List.map_append
theorem flatI_length (xs : List Int) : (flatI xs).length = xs.length := List.length_map ..
theorem flatI_one (xs : List Int) : ∀ u ∈ flatI xs, u.oneCell' = true := fun u hu => by
  obtain ⟨z, _, rfl⟩ := List.mem_map.1 hu
  rfl
/-- A block of n numbers, the first k of xs lie in it. -/
structure IFill (w : World) (g n : Nat) (xs : List Int) (k : Nat) : Prop where
  any : ∀ j, j < n → (∃ z : Int, w.cell? ⟨g, j, none⟩ = some (.int .i64 z)) ∧ w.frozen? ⟨g, j, none⟩ = false
  got : ∀ i (h : i < xs.length), i < k → w.cell? ⟨g, i, none⟩ = some (.int .i64 xs[i])
/-- v is a list of numbers: xs in a block of its own from lo on, or none. -/
def IV (w : World) (lo : Nat) (v : Value) (xs : List Int) : Prop :=
  (∃ g cap, v = .slice (some ⟨g, 0, none⟩) xs.length cap ∧ lo ≤ g ∧ g < w.heap.size ∧ IFill w g xs.length xs xs.length ∧ xs.length ≤ cap) ∨ (v = .slice none 0 0 ∧ xs = [])
theorem IV.own {w : World} {lo : Nat} {v : Value} {xs : List Int} (h : IV w lo v xs) {g : Nat} (hg : v.ownBlock = some g) : lo ≤ g ∧ g < w.heap.size := by
  rcases h with ⟨g', cap, rfl, h1, h2, _⟩ | ⟨rfl, _⟩
  · injection hg with hg
    have e : g' = g := hg
    subst e
    exact ⟨h1, h2⟩
  · cases hg
theorem IFill.mono {w w' : World} {g n k : Nat} {xs : List Int} (f : IFill w g n xs k) (hb : Below w.heap.size w w') (hg : g < w.heap.size) : IFill w' g n xs k where
  any := fun j hj => ⟨by obtain ⟨z, hz⟩ := (f.any j hj).1; exact ⟨z, (below_cells hb _ _ hg).trans hz⟩, (below_frozens hb _ _ hg).trans (f.any j hj).2⟩
  got := fun i hi hk => (below_cells hb _ _ hg).trans (f.got i hi hk)
theorem IV.next {w w' : World} {lo : Nat} {v : Value} {xs : List Int} (h : IV w lo v xs) (hb : Below w.heap.size w w') : IV w' lo v xs := by
  rcases h with ⟨g, cap, rfl, h1, h2, f, hc⟩ | h
  · exact .inl ⟨g, cap, rfl, h1, Nat.lt_of_lt_of_le h2 hb.size, f.mono hb h2, hc⟩
  · exact .inr h
theorem IV.onlyO {w w' : World} {lo : Nat} {o : Option Nat} {v : Value} {xs : List Int} (h : IV w lo v xs) (hb : OnlyO o w w') (hv : ∀ g, v.ownBlock = some g → o ≠ some g) : IV w' lo v xs := by
  rcases h with ⟨g, cap, rfl, h1, h2, f, hc⟩ | h
  · have hn := hv g rfl
    refine .inl ⟨g, cap, rfl, h1, Nat.lt_of_lt_of_le h2 hb.size, ⟨fun j hj => ?_, fun i hi hk => ?_⟩, hc⟩
    · obtain ⟨⟨z, hz⟩, hf⟩ := f.any j hj
      exact ⟨⟨z, (hb.cell (by exact h2) (by exact hn)).trans hz⟩, (hb.frozen (by exact h2) (by exact hn)).trans hf⟩
    · exact (hb.cell (by exact h2) (by exact hn)).trans (f.got i hi hk)
  · exact .inr h
theorem IV.lower {w : World} {lo lo' : Nat} {v : Value} {xs : List Int} (h : IV w lo v xs) (hl : lo' ≤ lo) : IV w lo' v xs := by
  rcases h with ⟨g, cap, rfl, h1, h2, f, hc⟩ | h
  · exact .inl ⟨g, cap, rfl, Nat.le_trans hl h1, h2, f, hc⟩
  · exact .inr h
theorem own_ints {w : World} {base : Nat} {v : Value} {xs : List Int} {t : TypeId} (h : w.ownsRow base t 1 v xs.length (flatI xs)) : IV w base v xs := by
  rcases h.2 with ⟨e, e2⟩ | ⟨g, cap, cur, rfl, hb, hg, hnc, _⟩
  · exact .inr ⟨e, List.eq_nil_of_length_eq_zero e2⟩
  · refine .inl ⟨g, cap, rfl, hb, (h.lt g rfl).2, ⟨fun j hj => ⟨?_, h.frozenAt j⟩, fun i hi _ => ?_⟩, hnc⟩
    · refine ⟨xs[j], (h.cellAt j (by omega)).trans ?_⟩
      unfold flatI
      rw [List.getElem?_map, List.getElem?_eq_getElem hj]
      rfl
    · refine (h.cellAt i (by omega)).trans ?_
      unfold flatI
      rw [List.getElem?_map, List.getElem?_eq_getElem hi]
      rfl
end Go.Proofs.Ytoeiheccmpjclar
