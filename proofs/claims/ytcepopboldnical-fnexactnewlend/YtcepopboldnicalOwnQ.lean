/- Lists of fours as values: new memory that holds items, or no item and no room. -/
import Derived.Test.YtcepopboldnicalOwnW
import Derived.Test.YtcepopboldnicalQuad
namespace Go.Proofs.Ytcepopboldnical
open Go.ChangeShapes Go.WideShapes Go.ChangeAt Go.RowKit
set_option maxRecDepth 100000
set_option linter.unusedVariables false

/-- v is a list: the items xs in a block of their own from lo on, or none and no room. -/
def QV (w : World) (lo : Nat) (v : Value) (xs : List Q4) : Prop :=
  (∃ g cap, v = .slice (some ⟨g, 0, none⟩) xs.length cap ∧ lo ≤ g ∧ g < w.heap.size ∧ QFill w g xs.length xs xs.length ∧ xs.length ≤ cap) ∨ ((∃ a, v = .slice a 0 0) ∧ xs = [])
theorem QV.zero (w : World) (lo : Nat) (a : Option Addr) : QV w lo (.slice a 0 0) [] := .inr ⟨⟨a, rfl⟩, rfl⟩
theorem QV.room {w : World} {lo : Nat} {v : Value} {xs : List Q4} (h : QV w lo v xs) :
    (∃ g cap, v = .slice (some ⟨g, 0, none⟩) xs.length (cap + 1) ∧ lo ≤ g ∧ g < w.heap.size ∧ QFill w g xs.length xs xs.length ∧ xs.length ≤ cap + 1) ∨ ((∃ a, v = .slice a 0 0) ∧ xs = []) := by
  rcases h with ⟨g, cap, e, h1, h2, f, hc⟩ | h
  · cases cap with
    | zero =>
      have hy : xs = [] := List.eq_nil_of_length_eq_zero (by omega)
      subst hy
      exact .inr ⟨⟨_, e⟩, rfl⟩
    | succ cap => exact .inl ⟨g, cap, e, h1, h2, f, hc⟩
  · exact .inr h
theorem QV.own {w : World} {lo : Nat} {v : Value} {xs : List Q4} (h : QV w lo v xs) {g : Nat} (hg : roomB v = some g) : lo ≤ g ∧ g < w.heap.size := by
  rcases h.room with ⟨g', cap, rfl, h1, h2, _⟩ | ⟨⟨a, rfl⟩, _⟩
  · injection hg with hg
    have e : g' = g := hg
    subst e
    exact ⟨h1, h2⟩
  · rw [room_zero] at hg
    cases hg
theorem QV.next {w w' : World} {lo : Nat} {v : Value} {xs : List Q4} (h : QV w lo v xs) (hb : Below w.heap.size w w') : QV w' lo v xs := by
  rcases h with ⟨g, cap, rfl, h1, h2, f, hc⟩ | h
  · exact .inl ⟨g, cap, rfl, h1, Nat.lt_of_lt_of_le h2 hb.size, f.mono hb h2, hc⟩
  · exact .inr h
theorem QV.onlyO {w w' : World} {lo : Nat} {o : Option Nat} {v : Value} {xs : List Q4} (h : QV w lo v xs) (hb : OnlyO o w w') (hv : ∀ g, roomB v = some g → o ≠ some g) : QV w' lo v xs := by
  rcases h.room with ⟨g, cap, rfl, h1, h2, f, hc⟩ | h
  · exact .inl ⟨g, _, rfl, h1, Nat.lt_of_lt_of_le h2 hb.size, f.onlyO hb h2 (hv g rfl), hc⟩
  · exact .inr h
theorem QV.lower {w : World} {lo lo' : Nat} {v : Value} {xs : List Q4} (h : QV w lo v xs) (hl : lo' ≤ lo) : QV w lo' v xs := by
  rcases h with ⟨g, cap, rfl, h1, h2, f, hc⟩ | h
  · exact .inl ⟨g, cap, rfl, Nat.le_trans hl h1, h2, f, hc⟩
  · exact .inr h
theorem QV.quad {w : World} {lo n c : Nat} {a : Option Addr} {xs : List Q4} (h : QV w lo (.slice a n c) xs) : n = xs.length ∧ Quad w.heap.size w a xs := by
  rcases h with ⟨g, cap, e, h1, h2, f, hc⟩ | ⟨⟨a', e⟩, rfl⟩
  · injection e with e1 e2 e3
    subst e1 e2
    exact ⟨rfl, f.quad h2⟩
  · injection e with e1 e2 e3
    exact ⟨e2, Quad.nil _ _ _⟩
theorem QV.slice {w : World} {lo : Nat} {v : Value} {xs : List Q4} (h : QV w lo v xs) : ∃ a c, v = .slice a xs.length c := by
  rcases h with ⟨g, cap, rfl, _⟩ | ⟨⟨a, rfl⟩, rfl⟩
  · exact ⟨_, _, rfl⟩
  · exact ⟨a, 0, rfl⟩
theorem own_qv {w : World} {base : Nat} {v : Value} {t : TypeId} {xs : List Q4} (h : w.ownsRow base t 4 v xs.length (flatQ xs)) : QV w base v xs := by
  by_cases hn : v = .slice none 0 0
  · rcases h.2 with ⟨_, e2⟩ | ⟨g, cap, cur, e, _⟩
    · exact .inr ⟨⟨none, hn⟩, List.eq_nil_of_length_eq_zero e2⟩
    · rw [e] at hn
      injection hn with hn
      cases hn
  · obtain ⟨g, cap, rfl, h1, h2, f, hc⟩ := own_quads h hn
    exact .inl ⟨g, cap, rfl, h1, h2, f, hc⟩
/-- Three lists in blocks of their own, each its own. -/
structure LV (w : World) (lo : Nat) (sT sO sP : Value) (T O P : List Q4) : Prop where
  t : QV w lo sT T
  o : QV w lo sO O
  p : QV w lo sP P
  to : ∀ g, roomB sT = some g → roomB sO ≠ some g
  tp : ∀ g, roomB sT = some g → roomB sP ≠ some g
  op : ∀ g, roomB sO = some g → roomB sP ≠ some g
theorem LV.next {w w' : World} {lo : Nat} {sT sO sP : Value} {T O P : List Q4} (h : LV w lo sT sO sP T O P) (hb : Below w.heap.size w w') : LV w' lo sT sO sP T O P := ⟨h.t.next hb, h.o.next hb, h.p.next hb, h.to, h.tp, h.op⟩
theorem LV.lower {w : World} {lo lo' : Nat} {sT sO sP : Value} {T O P : List Q4} (h : LV w lo sT sO sP T O P) (hl : lo' ≤ lo) : LV w lo' sT sO sP T O P := ⟨h.t.lower hl, h.o.lower hl, h.p.lower hl, h.to, h.tp, h.op⟩
theorem LV.zero (w : World) (lo : Nat) : LV w lo (.slice none 0 0) (.slice none 0 0) (.slice none 0 0) [] [] [] := ⟨QV.zero _ _ _, QV.zero _ _ _, QV.zero _ _ _, fun g h => (by cases h), fun g h => (by cases h), fun g h => (by cases h)⟩
end Go.Proofs.Ytcepopboldnical
