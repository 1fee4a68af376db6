/- What a walk keeps through calls, appends and stores: places with what lies there, blocks that may be written, all below untouched. -/
import Derived.Test.YtoeiheccmpjclarOwnV
import Derived.Laws.AppendOwn
namespace Go.Proofs.Ytoeiheccmpjclar
open Go.ChangeShapes Go.WideShapes Go.ChangeAt Go.RowKit
set_option maxRecDepth 100000
set_option linter.unusedVariables false

theorem OnlyO.of_grown {row : Option Nat} {w w' : World} (h : w.grownBy w' row) : OnlyO row w w' := ⟨h.os, h.tape, h.output, h.size, fun k hk hn => h.block k hk (fun e => hn e.symm)⟩
structure Kept (w : World) (cs : List (Nat × Nat × Value)) (bs : List Nat) (wr : World) : Prop where
  cells : Cells wr cs
  free : ∀ b ∈ bs, b < wr.heap.size ∧ ∀ o : Nat, wr.frozen? ⟨b, o, none⟩ = false
  hb : Below w.heap.size w wr
theorem Kept.onlyO {w : World} {cs : List (Nat × Nat × Value)} {bs : List Nat} {wr w' : World} {row : Option Nat} (h : Kept w cs bs wr) (hg : OnlyO row wr w') (hr : ∀ j, row = some j → w.heap.size ≤ j) (h1 : ∀ c ∈ cs, row ≠ some c.1) (h2 : ∀ b ∈ bs, row ≠ some b) : Kept w cs bs w' :=
  ⟨Cells.onlyO hg h1 h.cells, fun b hb => ⟨Nat.lt_of_lt_of_le (h.free b hb).1 hg.size, fun o => (hg.frozen (by exact (h.free b hb).1) (h2 b hb)).trans ((h.free b hb).2 o)⟩, h.hb.trans (hg.below hr h.hb.size)⟩
theorem Kept.next {w : World} {cs : List (Nat × Nat × Value)} {bs : List Nat} {wr w' : World} (h : Kept w cs bs wr) (hg : Below wr.heap.size wr w') : Kept w cs bs w' := h.onlyO (row := none) (OnlyO.of_below hg) (fun j e => by cases e) (fun c _ e => by cases e) (fun b _ e => by cases e)
theorem Kept.drew {w : World} {cs : List (Nat × Nat × Value)} {bs : List Nat} {wr : World} (h : Kept w cs bs wr) : Kept w cs bs wr.drew := h.next (Below.refl _ _).drew
/-- One place is stored over. -/
def putIn (b o : Nat) (v : Value) : List (Nat × Nat × Value) → List (Nat × Nat × Value)
  | [] => []
  | (b', o', u) :: r => (b', o', if b' = b ∧ o' = o then v else u) :: putIn b o v r
theorem Cells.put {wr : World} (b o : Nat) (v : Value) : ∀ {cs : List (Nat × Nat × Value)}, Cells wr cs → Cells (wr.setCell ⟨b, o, none⟩ v) (putIn b o v cs)
  | [], _ => trivial
  | (b', o', u) :: r, ⟨⟨h1, h2⟩, h⟩ => by
    refine ⟨⟨by simpa using h1, ?_⟩, Cells.put b o v h⟩
    by_cases e : b' = b ∧ o' = o
    · rw [if_pos e]
      obtain ⟨rfl, rfl⟩ := e
      exact set_same _ h2
    · rw [if_neg e]
      exact (World.cell?_setCell_other _ _ _ _ (fun k => e (by injection k with k1 k2 _; exact ⟨k1.symm, k2.symm⟩))).trans h2
theorem Kept.put {w : World} {cs : List (Nat × Nat × Value)} {bs : List Nat} {wr : World} (h : Kept w cs bs wr) (b o : Nat) (v : Value) (hb : w.heap.size ≤ b) : Kept w (putIn b o v cs) bs (wr.setCell ⟨b, o, none⟩ v) :=
  ⟨h.cells.put b o v, fun b' hb' => ⟨by simpa using (h.free b' hb').1, fun o' => by simpa using (h.free b' hb').2 o'⟩, h.hb.setCell (by exact hb) _⟩
theorem Kept.to {w : World} {cs cs' : List (Nat × Nat × Value)} {bs : List Nat} {wr : World} (h : Kept w cs bs wr) (e : cs = cs') : Kept w cs' bs wr := e ▸ h
theorem Fill.onlyO {w w' : World} {g n k : Nat} {xs : List (Int × Int)} {o : Option Nat} (f : Fill w g n xs k) (ho : OnlyO o w w') (hg : g < w.heap.size) (hn : o ≠ some g) : Fill w' g n xs k where
  any := fun j hj => ⟨by obtain ⟨z, hz⟩ := (f.any j hj).1; exact ⟨z, (ho.cell (by exact hg) (by exact hn)).trans hz⟩, (ho.frozen (by exact hg) (by exact hn)).trans (f.any j hj).2⟩
  got := fun i hi hk => ⟨(ho.cell (by exact hg) (by exact hn)).trans (f.got i hi hk).1, (ho.cell (by exact hg) (by exact hn)).trans (f.got i hi hk).2⟩
theorem row_set {w : World} {b i : Nat} {v u : Value} {base : Nat} {e : TypeId} {s n : Nat} {xs : List Value} (h : w.ownsRow base e s u n xs) (hb : b < base) : (w.setCell ⟨b, i, none⟩ v).ownsRow base e s u n xs :=
  h.kept (row := some b) ⟨rfl, rfl, rfl, by simp, fun k _ hk => Below.heap_setCell _ _ _ _ (fun e => hk (by simp [e]))⟩ (Or.inr (fun e => by have := (h.lt _ e).1; omega))
theorem own_slice {w : World} {b : Nat} {e : TypeId} {s n : Nat} {v : Value} {xs : List Value} (h : w.ownsRow b e s v n xs) : ∃ a c, v = .slice a n c := by
  rcases h.2 with ⟨rfl, e⟩ | ⟨g1, cap, cur, rfl, _⟩
  · exact ⟨none, 0, by rw [e]⟩
  · exact ⟨_, _, rfl⟩
theorem row_next {w w' : World} {base : Nat} {e : TypeId} {s n : Nat} {u : Value} {xs : List Value} (h : w.ownsRow base e s u n xs) (hb : Below w.heap.size w w') : w'.ownsRow base e s u n xs :=
  h.kept (row := none) ⟨hb.os, hb.tape, hb.output, hb.size, fun k hk _ => hb.block k hk⟩ (by cases u.ownBlock with | none => exact .inl rfl | some g => exact .inr (fun e => by cases e))
end Go.Proofs.Ytoeiheccmpjclar
