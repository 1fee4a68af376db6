/- impl.Push's helpers: what is earlier, the closures, the cuts, what goes from the back and from the front, the copy. -/
import Derived.Test.YtiibafphgjlffapImplFilterOk
import Derived.Test.YtiibafphgjlffapSpecPush3
import Derived.ArgAppend
namespace Go.Proofs.Ytiibafphgjlffap
open Go.ChangeShapes Go.WideShapes Go.ChangeAt Go.RowKit
set_option maxRecDepth 100000
set_option linter.unusedVariables false
set_option linter.unusedSimpArgs false

/-- From place m on nothing beats q, and what is just ahead does. -/
def BackTo (most : Bool) (q : Int) (xs : List (Int × Int)) (m : Nat) : Prop := (∀ i (h : i < xs.length), m ≤ i → beatB most xs[i].2 q = false) ∧ (∀ j (h : j < xs.length), j + 1 = m → beatB most xs[j].2 q = true)
def WlPost (w : World) (a : Option Addr) (most : Bool) (q : Int) (xs : List (Int × Int)) (e : Ending) (w' : World) : Prop := ∃ m, e = .returned (.slice a m m) ∧ m ≤ xs.length ∧ BackTo most q xs m ∧ Below w.heap.size w w'
end Go.Proofs.Ytiibafphgjlffap
