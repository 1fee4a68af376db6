/- Lists of pairs as values: new memory that holds items, or no item and no room. -/
import Derived.Test.YtcepopboldnicalOwnV
namespace Go.Proofs.Ytcepopboldnical
open Go.ChangeShapes Go.WideShapes Go.ChangeAt Go.RowKit
set_option maxRecDepth 100000
set_option linter.unusedVariables false

/-- The block that a slice may write into: none where it has no room. -/
def roomB : Value → Option Nat
  | .slice (some p) _ (_ + 1) => some p.block
  | _ => none
theorem room_own {a : Option Addr} {n c g : Nat} (h : roomB (.slice a n c) = some g) : (Value.slice a n c).ownBlock = some g := by
  cases a with
  | none => cases h
  | some p => cases c with
    | zero => cases h
    | succ c => exact h
theorem room_zero (a : Option Addr) (n : Nat) : roomB (.slice a n 0) = none := by cases a <;> rfl
/-- v is a list: the items ys in a block of their own from lo on, or none and no room. -/
def FW (w : World) (lo : Nat) (v : Value) (ys : List (Int × Int)) : Prop :=
  (∃ g cap, v = .slice (some ⟨g, 0, none⟩) ys.length cap ∧ lo ≤ g ∧ g < w.heap.size ∧ Fill w g ys.length ys ys.length ∧ ys.length ≤ cap) ∨ ((∃ a, v = .slice a 0 0) ∧ ys = [])
theorem FW.zero (w : World) (lo : Nat) (a : Option Addr) : FW w lo (.slice a 0 0) [] := .inr ⟨⟨a, rfl⟩, rfl⟩
theorem FW.of {w : World} {lo : Nat} {v : Value} {ys : List (Int × Int)} (h : FV w lo v ys) : FW w lo v ys := by
  rcases h with h | ⟨h, k⟩
  · exact .inl h
  · exact .inr ⟨⟨_, h⟩, k⟩
/-- .. with room, or none. -/
theorem FW.room {w : World} {lo : Nat} {v : Value} {ys : List (Int × Int)} (h : FW w lo v ys) :
    (∃ g cap, v = .slice (some ⟨g, 0, none⟩) ys.length (cap + 1) ∧ lo ≤ g ∧ g < w.heap.size ∧ Fill w g ys.length ys ys.length ∧ ys.length ≤ cap + 1) ∨ ((∃ a, v = .slice a 0 0) ∧ ys = []) := by
  rcases h with ⟨g, cap, e, h1, h2, f, hc⟩ | h
  · cases cap with
    | zero =>
      have hy : ys = [] := List.eq_nil_of_length_eq_zero (by omega)
      subst hy
      exact .inr ⟨⟨_, e⟩, rfl⟩
    | succ cap => exact .inl ⟨g, cap, e, h1, h2, f, hc⟩
  · exact .inr h
theorem FW.own {w : World} {lo : Nat} {v : Value} {ys : List (Int × Int)} (h : FW w lo v ys) {g : Nat} (hg : roomB v = some g) : lo ≤ g ∧ g < w.heap.size := by
  rcases h.room with ⟨g', cap, rfl, h1, h2, _⟩ | ⟨⟨a, rfl⟩, _⟩
  · injection hg with hg
    have e : g' = g := hg
    subst e
    exact ⟨h1, h2⟩
  · rw [room_zero] at hg
    cases hg
theorem FW.next {w w' : World} {lo : Nat} {v : Value} {ys : List (Int × Int)} (h : FW w lo v ys) (hb : Below w.heap.size w w') : FW w' lo v ys := by
  rcases h with ⟨g, cap, rfl, h1, h2, f, hc⟩ | h
  · exact .inl ⟨g, cap, rfl, h1, Nat.lt_of_lt_of_le h2 hb.size, f.mono hb h2, hc⟩
  · exact .inr h
theorem FW.onlyO {w w' : World} {lo : Nat} {o : Option Nat} {v : Value} {ys : List (Int × Int)} (h : FW w lo v ys) (hb : OnlyO o w w') (hv : ∀ g, roomB v = some g → o ≠ some g) : FW w' lo v ys := by
  rcases h.room with ⟨g, cap, rfl, h1, h2, f, hc⟩ | h
  · have hn := hv g rfl
    refine .inl ⟨g, _, rfl, h1, Nat.lt_of_lt_of_le h2 hb.size, ⟨fun j hj => ?_, fun i hi hk => ?_⟩, hc⟩
    · obtain ⟨⟨z, hz⟩, hf⟩ := f.any j hj
      exact ⟨⟨z, (hb.cell (by exact h2) (by exact hn)).trans hz⟩, (hb.frozen (by exact h2) (by exact hn)).trans hf⟩
    · exact ⟨(hb.cell (by exact h2) (by exact hn)).trans (f.got i hi hk).1, (hb.cell (by exact h2) (by exact hn)).trans (f.got i hi hk).2⟩
  · exact .inr h
theorem FW.lower {w : World} {lo lo' : Nat} {v : Value} {ys : List (Int × Int)} (h : FW w lo v ys) (hl : lo' ≤ lo) : FW w lo' v ys := by
  rcases h with ⟨g, cap, rfl, h1, h2, f, hc⟩ | h
  · exact .inl ⟨g, cap, rfl, Nat.le_trans hl h1, h2, f, hc⟩
  · exact .inr h
end Go.Proofs.Ytcepopboldnical
