/- Lemmas on the way, of several texts: AckMath. -/
namespace Go.Proofs.YtkohlmloobojfaaGreat

def runA : Nat → Int → Int → Int × Int
  | 0, a, x => (a, x)
  | m + 1, a, x => if x ≤ a then runA m (a - x) (min 1000000000 (x + 1500)) else (a, x)
/-- All steps of Acked a at a window x. -/
def stepA (a x : Int) : Int × Int := runA a.toNat a x
end Go.Proofs.YtkohlmloobojfaaGreat
