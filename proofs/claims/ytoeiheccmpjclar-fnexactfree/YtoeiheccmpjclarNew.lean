/- A new cursor, and the draws of chapter 1's arguments: whatever the bytes, numbers of 64 bits; nothing that was there is written. -/
import Derived.Test.YtoeiheccmpjclarDraw
namespace Go.Proofs.Ytoeiheccmpjclar
open Go.ChangeShapes Go.WideShapes Go.ChangeAt Go.RowKit
set_option maxRecDepth 100000
set_option linter.unusedVariables false

/-- The row of len bytes at a0 lies below block B. -/
def Row (B : Nat) (a0 : Option Addr) (len : Nat) (w : World) : Prop :=
  ∀ i : Nat, i < len → ∃ (xb xo : Nat) (z : Int), a0 = some ⟨xb, xo, none⟩ ∧ xb < B ∧ w.cell? ⟨xb, xo + i, none⟩ = some (.int .u8 z) ∧ 0 ≤ z ∧ z ≤ 255
theorem Row.mono {B : Nat} {a0 : Option Addr} {len : Nat} {w w' : World} (r : Row B a0 len w) (h : Below B w w') : Row B a0 len w' := fun i hi => by
  obtain ⟨xb, xo, z, e, hx, hc, hz⟩ := r i hi
  exact ⟨xb, xo, z, e, hx, (h.cell (by exact hx)).trans hc, hz⟩
/-- A number of 64 bits. -/
def I64 (x : Int) : Prop := -9223372036854775808 ≤ x ∧ x ≤ 9223372036854775807
theorem I64_wrap (x : Int) : I64 (wrap64 x) := by unfold I64 wrap64; omega

end Go.Proofs.Ytoeiheccmpjclar
