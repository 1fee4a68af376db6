/- What spec.Cancel answers. -/
import Derived.Test.YtdgefdjgpneanacSpecWheelOk
import Derived.Test.YtdgefdjgpneanacSpecWithout
namespace Go.Proofs.Ytdgefdjgpneanac
open Go.ChangeShapes Go.WideShapes Go.ChangeAt Go.RowKit
set_option maxRecDepth 100000
set_option linter.unusedVariables false
set_option linter.unusedSimpArgs false

theorem specWheelOk_yes {w : World} {now : Int} {a : Option Addr} (cap : Nat) {xs : List (Int × Int)} (h : Smp w.heap.size w a xs) (hW : WOk now xs) :
    Calls Try.prog 28 #[.agg #[.int .i64 now, .slice a xs.length cap]] w fun e w' => e = .returned (.bool true) ∧ Below w.heap.size w w' := by
  refine (specWheelOk_any now cap h (by have := hW.2.1; omega)).mono ?_
  rintro e w' ⟨f, rfl, hf, hb⟩
  exact ⟨by rw [hf.2 hW], hb⟩
theorem specWheelOk_no {w : World} {now : Int} {a : Option Addr} (cap : Nat) {xs : List (Int × Int)} (h : Smp w.heap.size w a xs) (hl : (xs.length : Int) ≤ 9223372036854775807) (hW : ¬ WOk now xs) :
    Calls Try.prog 28 #[.agg #[.int .i64 now, .slice a xs.length cap]] w fun e w' => e = .returned (.bool false) ∧ Below w.heap.size w w' := by
  refine (specWheelOk_any now cap h hl).mono ?_
  rintro e w' ⟨f, rfl, hf, hb⟩
  cases f
  · exact ⟨rfl, hb⟩
  · exact absurd (hf.1 rfl) hW
/-- A wheel that was made anew, and a flag. -/
def WheelPost (w : World) (t : Int) (L : List (Int × Int)) (f : Bool) (e : Ending) (w' : World) : Prop := ∃ a n c, e = .returned (.tuple #[.agg #[.int .i64 t, .slice a n c], .bool f]) ∧ FW w' w.heap.size (.slice a n c) L ∧ Below w.heap.size w w'
theorem WheelPost.zero {w w' : World} (hb : Below w.heap.size w w') : WheelPost w 0 [] false (.returned (.tuple #[.agg #[.int .i64 0, .slice none 0 0], .bool false])) w' := ⟨none, 0, 0, rfl, .inr ⟨⟨_, rfl⟩, rfl⟩, hb⟩
theorem startw {w w' : World} {A B : Obj} (h : Below ((w.alloc A).alloc B).heap.size ((w.alloc A).alloc B) w') : Below w.heap.size w w' := below_step (w := w) (by go_grown) h
theorem sizew {w w' : World} {A B : Obj} (h : Below ((w.alloc A).alloc B).heap.size ((w.alloc A).alloc B) w') : w.heap.size + 1 < w'.heap.size := by
  have := h.size
  simp at this
  omega
end Go.Proofs.Ytdgefdjgpneanac
