/- Plain facts on whole numbers, no program in sight: sums held at their bounds, products by halves, a division bit by bit, cube roots. -/
namespace Go.Proofs.Ytibfclfidaofkas

/-- The sum, or the nearest number of 64 bits. -/
def satAdd (a b : Int) : Int :=
  if 9223372036854775807 < a + b then 9223372036854775807 else if a + b < -9223372036854775808 then -9223372036854775808 else a + b

theorem satAdd_in (a b : Int) : -9223372036854775808 ≤ satAdd a b ∧ satAdd a b ≤ 9223372036854775807 := by
  unfold satAdd; split <;> (try split) <;> omega
theorem satAdd_comm (a b : Int) : satAdd a b = satAdd b a := by
  unfold satAdd; rw [Int.add_comm a b]

end Go.Proofs.Ytibfclfidaofkas
