/- What spec.Push answers. -/
import Derived.Test.YtiibafphgjlffapSpecFilterOk
import Derived.Test.YtiibafphgjlffapFlat
import Derived.Deep.RegionHeld3
namespace Go.Proofs.Ytiibafphgjlffap
open Go.ChangeShapes Go.WideShapes Go.ChangeAt Go.RowKit
set_option maxRecDepth 100000
set_option linter.unusedVariables false
set_option linter.unusedSimpArgs false

theorem specFilterOk_yes {w : World} {a : Option Addr} (cap : Nat) {xs : List (Int × Int)} {most : Bool} (h : Smp w.heap.size w a xs) (hF : FOk most xs) :
    Calls Try.prog 48 #[.agg #[.slice a xs.length cap], .bool most] w fun e w' => e = .returned (.bool true) ∧ Below w.heap.size w w' := by
  refine (specFilterOk_any cap most h).mono ?_
  rintro e w' ⟨f, rfl, hf, hb⟩
  rw [hf.2 hF]
  exact ⟨rfl, hb⟩
theorem specFilterOk_no {w : World} {a : Option Addr} (cap : Nat) {xs : List (Int × Int)} {most : Bool} (h : Smp w.heap.size w a xs) (hF : ¬ FOk most xs) :
    Calls Try.prog 48 #[.agg #[.slice a xs.length cap], .bool most] w fun e w' => e = .returned (.bool false) ∧ Below w.heap.size w w' := by
  refine (specFilterOk_any cap most h).mono ?_
  rintro e w' ⟨f, rfl, hf, hb⟩
  cases f
  · exact ⟨rfl, hb⟩
  · exact absurd (hf.1 rfl) hF
/-- The last one's time. -/
def lastAt (xs : List (Int × Int)) : Int := match xs.getLast? with | some x => x.1 | none => -1
def PushOk (most : Bool) (xs : List (Int × Int)) (s : Int × Int) (win : Int) : Prop := FOk most xs ∧ smpB s = true ∧ timeB win = true ∧ lastAt xs ≤ s.1
def keepB (most : Bool) (s x : Int × Int) : Bool := if most = true then decide (s.2 < x.2) else decide (x.2 < s.2)
/-- What Push leaves. -/
def NoPost (w : World) (e : Ending) (w' : World) : Prop := e = .returned (.tuple #[.agg #[.slice none 0 0], .bool false]) ∧ Below w.heap.size w w'
/-- The three cells that the test reads, behind a call. -/
theorem held_next {w w2 : World} {b : Nat} {v u u' : Value} (h : w.cell? ⟨b, 0, none⟩ = some v ∧ w.cell? ⟨b + 1, 0, none⟩ = some u ∧ w.cell? ⟨b + 1, 1, none⟩ = some u') (hb : Below w.heap.size w w2) (h0 : b < w.heap.size) (h1 : b + 1 < w.heap.size) :
    w2.cell? ⟨b, 0, none⟩ = some v ∧ w2.cell? ⟨b + 1, 0, none⟩ = some u ∧ w2.cell? ⟨b + 1, 1, none⟩ = some u' :=
  ⟨(below_cells hb _ _ h0).trans h.1, (below_cells hb _ _ h1).trans h.2.1, (below_cells hb _ _ h1).trans h.2.2⟩
end Go.Proofs.Ytiibafphgjlffap
