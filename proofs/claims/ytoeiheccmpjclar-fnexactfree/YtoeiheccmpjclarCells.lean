/- Cells that are held through calls: a list of places with what lies there. -/
import Derived.Test.YtoeiheccmpjclarToSmp
import Derived.Test.YtoeiheccmpjclarCur
namespace Go.Proofs.Ytoeiheccmpjclar
open Go.ChangeShapes Go.WideShapes Go.ChangeAt Go.RowKit
set_option maxRecDepth 100000
set_option linter.unusedVariables false

def Cells (w : World) : List (Nat × Nat × Value) → Prop
  | [] => True
  | (b, o, v) :: r => (b < w.heap.size ∧ w.cell? ⟨b, o, none⟩ = some v) ∧ Cells w r
theorem Cells.next {w w' : World} (hb : Below w.heap.size w w') : ∀ {cs : List (Nat × Nat × Value)}, Cells w cs → Cells w' cs
  | [], _ => trivial
  | (b, o, v) :: r, ⟨⟨h1, h2⟩, h⟩ => ⟨⟨Nat.lt_of_lt_of_le h1 hb.size, (below_cells hb _ _ h1).trans h2⟩, Cells.next hb h⟩
theorem Cells.only {w w' : World} {g : Nat} (ho : Only g w w') : ∀ {cs : List (Nat × Nat × Value)}, (∀ c ∈ cs, c.1 ≠ g) → Cells w cs → Cells w' cs
  | [], _, _ => trivial
  | (b, o, v) :: r, hg, ⟨⟨h1, h2⟩, h⟩ => ⟨⟨Nat.lt_of_lt_of_le h1 ho.size, (ho.cell h1 (hg (b, o, v) (List.mem_cons_self ..))).trans h2⟩, Cells.only ho (fun c hc => hg c (List.mem_cons_of_mem _ hc)) h⟩
end Go.Proofs.Ytoeiheccmpjclar
