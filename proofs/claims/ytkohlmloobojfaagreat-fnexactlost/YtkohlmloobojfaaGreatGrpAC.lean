/- Lemmas on the way, of several texts: CubMath. -/
import Derived.Test.YtkohlmloobojfaaGreatRows
import Derived.WalkKit
import Derived.ProofKit
import Derived.OpenShut
import Derived.Outline
import Derived.LoopN
import Derived.Handy
namespace Go.Proofs.YtkohlmloobojfaaGreat

def rootTo : Nat → Nat → Nat
  | 0, _ => 0
  | m + 1, n => if (m + 1) * (m + 1) * (m + 1) ≤ n then m + 1 else rootTo m n
/-- The cube root, rounded down; -1 below 0. -/
def rootZ (n : Int) : Int := if n < 0 then -1 else ((rootTo 2097151 n.toNat : Nat) : Int)
/-- How long the curve takes. -/
def cubT (la og : Int) : Int := if la ≤ og then 0 else rootZ ((la - og) * 2500000000 / 1500)
/-- How far the curve is from the last window, d milliseconds behind its time. -/
def cubD (d : Int) : Int := d * d * d * 6000 / 10000000000
def cubAt (la og ms : Int) : Int := min 1000000000 (max 0 (la + cubD (ms - cubT la og)))
end Go.Proofs.YtkohlmloobojfaaGreat
