/- Lists of pairs as values: new memory that holds items, or none. -/
import Derived.Test.YtoeiheccmpjclarCells
namespace Go.Proofs.Ytoeiheccmpjclar
open Go.ChangeShapes Go.WideShapes Go.ChangeAt Go.RowKit
set_option maxRecDepth 100000
set_option linter.unusedVariables false

/-- Of all old blocks at most the one that is named has turned. -/
structure OnlyO (o : Option Nat) (w w' : World) : Prop where
  os : w'.os = w.os
  tape : w'.tape = w.tape
  output : w'.output = w.output
  size : w.heap.size ≤ w'.heap.size
  block : ∀ k, k < w.heap.size → o ≠ some k → w'.heap[k]? = w.heap[k]?
theorem OnlyO.of_below {o : Option Nat} {w w' : World} (h : Below w.heap.size w w') : OnlyO o w w' := ⟨h.os, h.tape, h.output, h.size, fun k hk _ => h.block k hk⟩
theorem OnlyO.of_only {g : Nat} {w w' : World} (h : Only g w w') : OnlyO (some g) w w' := ⟨h.os, h.tape, h.output, h.size, fun k hk hn => h.block k hk (fun e => hn (by rw [e]))⟩
theorem OnlyO.below {o : Option Nat} {B : Nat} {w w' : World} (h : OnlyO o w w') (hb : ∀ g, o = some g → B ≤ g) (hB : B ≤ w.heap.size) : Below B w w' :=
  ⟨h.os, h.tape, h.output, h.size, fun k hk => h.block k (by omega) (fun e => by have := hb k e; omega)⟩
theorem OnlyO.trans {o : Option Nat} {w x y : World} (h : OnlyO o w x) (k : OnlyO o x y) : OnlyO o w y := ⟨k.os.trans h.os, k.tape.trans h.tape, k.output.trans h.output, Nat.le_trans h.size k.size, fun i hi hn => (k.block i (Nat.lt_of_lt_of_le hi h.size) hn).trans (h.block i hi hn)⟩
theorem OnlyO.cell {o : Option Nat} {w w' : World} (h : OnlyO o w w') {p : Addr} (hp : p.block < w.heap.size) (hb : o ≠ some p.block) : w'.cell? p = w.cell? p := World.cell?_of_block (w := w) (h.block p.block hp hb)
theorem OnlyO.frozen {o : Option Nat} {w w' : World} (h : OnlyO o w w') {p : Addr} (hp : p.block < w.heap.size) (hb : o ≠ some p.block) : w'.frozen? p = w.frozen? p := World.frozen?_of_block (w := w) (h.block p.block hp hb)
theorem Cells.onlyO {w w' : World} {o : Option Nat} (ho : OnlyO o w w') : ∀ {cs : List (Nat × Nat × Value)}, (∀ c ∈ cs, o ≠ some c.1) → Cells w cs → Cells w' cs
  | [], _, _ => trivial
  | (b, o', v) :: r, hg, ⟨⟨h1, h2⟩, h⟩ => ⟨⟨Nat.lt_of_lt_of_le h1 ho.size, (ho.cell h1 (hg (b, o', v) (List.mem_cons_self ..))).trans h2⟩, Cells.onlyO ho (fun c hc => hg c (List.mem_cons_of_mem _ hc)) h⟩
/-- v is a filter's list: the items ys in a block of their own from lo on, or none. -/
def FV (w : World) (lo : Nat) (v : Value) (ys : List (Int × Int)) : Prop :=
  (∃ g cap, v = .slice (some ⟨g, 0, none⟩) ys.length cap ∧ lo ≤ g ∧ g < w.heap.size ∧ Fill w g ys.length ys ys.length ∧ ys.length ≤ cap) ∨ (v = .slice none 0 0 ∧ ys = [])
theorem FV.own {w : World} {lo : Nat} {v : Value} {ys : List (Int × Int)} (h : FV w lo v ys) {g : Nat} (hg : v.ownBlock = some g) : lo ≤ g ∧ g < w.heap.size := by
  rcases h with ⟨g', cap, rfl, h1, h2, _⟩ | ⟨rfl, _⟩
  · injection hg with hg
    have e : g' = g := hg
    subst e
    exact ⟨h1, h2⟩
  · cases hg
theorem FV.next {w w' : World} {lo : Nat} {v : Value} {ys : List (Int × Int)} (h : FV w lo v ys) (hb : Below w.heap.size w w') : FV w' lo v ys := by
  rcases h with ⟨g, cap, rfl, h1, h2, f, hc⟩ | h
  · exact .inl ⟨g, cap, rfl, h1, Nat.lt_of_lt_of_le h2 hb.size, f.mono hb h2, hc⟩
  · exact .inr h
theorem FV.onlyO {w w' : World} {lo : Nat} {o : Option Nat} {v : Value} {ys : List (Int × Int)} (h : FV w lo v ys) (hb : OnlyO o w w') (hv : ∀ g, v.ownBlock = some g → o ≠ some g) : FV w' lo v ys := by
  rcases h with ⟨g, cap, rfl, h1, h2, f, hc⟩ | h
  · have hn := hv g rfl
    refine .inl ⟨g, cap, rfl, h1, Nat.lt_of_lt_of_le h2 hb.size, ⟨fun j hj => ?_, fun i hi hk => ?_⟩, hc⟩
    · obtain ⟨⟨z, hz⟩, hf⟩ := f.any j hj
      exact ⟨⟨z, (hb.cell (by exact h2) (by exact hn)).trans hz⟩, (hb.frozen (by exact h2) (by exact hn)).trans hf⟩
    · exact ⟨(hb.cell (by exact h2) (by exact hn)).trans (f.got i hi hk).1, (hb.cell (by exact h2) (by exact hn)).trans (f.got i hi hk).2⟩
  · exact .inr h
theorem FV.lower {w : World} {lo lo' : Nat} {v : Value} {ys : List (Int × Int)} (h : FV w lo v ys) (hl : lo' ≤ lo) : FV w lo' v ys := by
  rcases h with ⟨g, cap, rfl, h1, h2, f, hc⟩ | h
  · exact .inl ⟨g, cap, rfl, Nat.le_trans hl h1, h2, f, hc⟩
  · exact .inr h
end Go.Proofs.Ytoeiheccmpjclar
