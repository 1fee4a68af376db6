/- Lemmas on the way, of several texts: Math. -/
/- Plain facts on whole numbers, no program in sight: sums held at their bounds, products by halves, a division bit by bit, cube roots. -/
namespace Go.Proofs.YtndgfeeonibpgaaGreat

/-- The sum, or the nearest number of 64 bits. -/
def satAdd (a b : Int) : Int :=
  if 9223372036854775807 < a + b then 9223372036854775807 else if a + b < -9223372036854775808 then -9223372036854775808 else a + b

end Go.Proofs.YtndgfeeonibpgaaGreat
