/- Pairs laid flat; rows of the call's own that hold pairs. -/
import Derived.Test.YtiibafphgjlffaeGrpC
import Derived.Laws.AppendOwn
namespace Go.Proofs.Ytiibafphgjlffae
open Go.ChangeShapes Go.WideShapes Go.ChangeAt Go.RowKit
set_option maxRecDepth 100000
set_option linter.unusedVariables false

def flat (xs : List (Int × Int)) : List Value := xs.flatMap fun x => [.int .i64 x.1, .int .i64 x.2]
theorem flat_append (xs ys : List (Int × Int)) : flat (xs ++ ys) = flat xs ++ flat ys := List.flatMap_append
theorem flat_one (x : Int × Int) : flat [x] = [.int .i64 x.1, .int .i64 x.2] := rfl
theorem flat_length (xs : List (Int × Int)) : (flat xs).length = xs.length * 2 := by
  induction xs with
  | nil => rfl
  | cons x xs ih =>
    show (flat xs).length + 1 + 1 = _
    rw [ih, List.length_cons]
    omega
theorem flat_get (xs : List (Int × Int)) : ∀ i (h : i < xs.length), (flat xs)[i * 2]? = some (.int .i64 xs[i].1) ∧ (flat xs)[i * 2 + 1]? = some (.int .i64 xs[i].2) := by
  induction xs with
  | nil => intro i h; cases h
  | cons x xs ih =>
    intro i h
    cases i with
    | zero => exact ⟨rfl, rfl⟩
    | succ j =>
      have hj : j < xs.length := by simpa using h
      obtain ⟨h0, h1⟩ := ih j hj
      have e0 : (flat (x :: xs))[(j + 1) * 2]? = (flat xs)[j * 2]? := by
        show (Value.int .i64 x.1 :: Value.int .i64 x.2 :: flat xs)[(j + 1) * 2]? = _
        rw [show (j + 1) * 2 = j * 2 + 1 + 1 by omega]
        simp
      have e1 : (flat (x :: xs))[(j + 1) * 2 + 1]? = (flat xs)[j * 2 + 1]? := by
        show (Value.int .i64 x.1 :: Value.int .i64 x.2 :: flat xs)[(j + 1) * 2 + 1]? = _
        rw [show (j + 1) * 2 + 1 = j * 2 + 1 + 1 + 1 by omega]
        simp
      rw [e0, e1]
      exact ⟨h0, h1⟩
theorem flat_mem {xs : List (Int × Int)} {u : Value} (h : u ∈ flat xs) : ∃ z, u = .int .i64 z := by
  obtain ⟨x, _, hx⟩ := List.mem_flatMap.1 h
  simp only [List.mem_cons, List.not_mem_nil, or_false] at hx
  rcases hx with rfl | rfl
  · exact ⟨_, rfl⟩
  · exact ⟨_, rfl⟩
theorem flat_one' (xs : List (Int × Int)) : ∀ u ∈ flat xs, u.oneCell' = true := fun u hu => by obtain ⟨z, rfl⟩ := flat_mem hu; rfl
theorem own_fill {w : World} {base : Nat} {v : Value} {xs : List (Int × Int)} (h : w.ownsRow base 87 2 v xs.length (flat xs)) (hn : v ≠ .slice none 0 0) :
    ∃ g cap, v = .slice (some ⟨g, 0, none⟩) xs.length cap ∧ base ≤ g ∧ g < w.heap.size ∧ Fill w g xs.length xs xs.length ∧ xs.length ≤ cap := by
  rcases h.2 with ⟨e, _⟩ | ⟨g, cap, cur, rfl, hb, hg, hnc, _⟩
  · exact absurd e hn
  · refine ⟨g, cap, rfl, hb, (h.lt g rfl).2, ⟨fun j hj => ⟨?_, h.frozenAt j⟩, fun i hi _ => ?_⟩, hnc⟩
    · have hc := h.cellAt j hj
      obtain ⟨u, hu⟩ : ∃ u, (flat xs)[j]? = some u := ⟨_, List.getElem?_eq_getElem (by rw [flat_length]; exact hj)⟩
      obtain ⟨z, rfl⟩ := flat_mem (List.mem_of_getElem? hu)
      exact ⟨z, hc.trans hu⟩
    · obtain ⟨h0, h1⟩ := flat_get xs i hi
      exact ⟨(h.cellAt _ (by omega)).trans h0, (h.cellAt _ (by omega)).trans h1⟩
end Go.Proofs.Ytiibafphgjlffae
