/-
  No cell of these rows narrows 'for every input' (looked for: loops, veiled, ifaces, maps, wideKeys, modest, calm, conditions, laid).
  DERIVED. THE GIVEN ROWS OF THIS SEAT. 6 by the template 'for every input the law returns true; each argument reads behind the call as it read before'; 0 by the template 'total and deterministic' (their statements: YtnffbnnkcdgckahTotals.lean).
  GIVEN WITH THE SEED: the statements are not yours to turn. If you find one false, say at which input.
  Laid BY PROGRAM, IN A SANDBOX (cutbox-rows.mjs): the forced cells as the released guide's own fill.sh prints them over the translation 9d91fd73700e2336… (all of the seat's roots in one cut). By AI agents, Wed Nov 11 2026. No macro, syntax, notation, axiom, sorry.
-/
import Derived.Test.YtnffbnnkcdgckahChecked
import GoSem.Claim
import GoSem.ClaimJoined
import GoSem.ClaimMapViews
import Derived.JoinedTies
import Derived.KernelRfl
namespace Go.Proofs.Ytnffbnnkcdgckah
/- THE CELL 'sum', in the pinned program and in every row, IS THE sha256 OF THE DUMP (.gsa) THAT YtnffbnnkcdgckahProg.lean LOADS. Nothing in Lean hashes anything: it is a label: what it is worth is what the hold of that sum in a sandbox is worth. -/
noncomputable def Try.pinned : Pinned := { name := "ytnffbnnkcdgckah", sum := "9d91fd73700e2336e7ae0e43931d747d625c2b0a1d33c77333113eec0f4abf21", checked := Try.checked }
namespace Rows
def none {H : Type} : Left H := { results := [], args := [] }

/-- 'laws.FnExactCubeRoot': WHATEVER THE INPUT: true; the input reads as it did. -/
def fnExactCubeRootSpec : ChangeSpec := { name := "fnExactCubeRoot", fn := fun _ => fun
  | [d] => { results := [.lit (.bool true)], args := [d] }
  | _ => none }
def fnExactCubeRootRow : OpenClaim := { program := "ytnffbnnkcdgckah", sum := "9d91fd73700e2336e7ae0e43931d747d625c2b0a1d33c77333113eec0f4abf21", func := "loop.example/g00147/laws.FnExactCubeRoot", spec := "fnExactCubeRoot", apart := false }
def FnExactCubeRootSaid : Prop := fnExactCubeRootRow.holds Try.pinned (OpenSpec.ofChange fnExactCubeRootSpec)

/-- ITS FALSE NEIGHBOUR: 'it returns false'. Refute it at one input. -/
def fnExactCubeRootWrong : ChangeSpec := { name := "fnExactCubeRoot", fn := fun _ => fun
  | [d] => { results := [.lit (.bool false)], args := [d] }
  | _ => none }
def FnExactCubeRootWrongFalsely : Prop := fnExactCubeRootRow.holds Try.pinned (OpenSpec.ofChange fnExactCubeRootWrong)

/-- 'laws.FnExactBytes': WHATEVER THE INPUT: true; the input reads as it did. -/
def fnExactBytesSpec : ChangeSpec := { name := "fnExactBytes", fn := fun _ => fun
  | [d1, d2] => { results := [.lit (.bool true)], args := [d1, d2] }
  | _ => none }
def fnExactBytesRow : OpenClaim := { program := "ytnffbnnkcdgckah", sum := "9d91fd73700e2336e7ae0e43931d747d625c2b0a1d33c77333113eec0f4abf21", func := "loop.example/g00147/laws.FnExactBytes", spec := "fnExactBytes", apart := false }
def FnExactBytesSaid : Prop := fnExactBytesRow.holds Try.pinned (OpenSpec.ofChange fnExactBytesSpec)

/-- ITS FALSE NEIGHBOUR: 'it returns false'. Refute it at one input. -/
def fnExactBytesWrong : ChangeSpec := { name := "fnExactBytes", fn := fun _ => fun
  | [d1, d2] => { results := [.lit (.bool false)], args := [d1, d2] }
  | _ => none }
def FnExactBytesWrongFalsely : Prop := fnExactBytesRow.holds Try.pinned (OpenSpec.ofChange fnExactBytesWrong)

/-- 'laws.FnExactTimeFor': WHATEVER THE INPUT: true; the input reads as it did. -/
def fnExactTimeForSpec : ChangeSpec := { name := "fnExactTimeFor", fn := fun _ => fun
  | [d1, d2] => { results := [.lit (.bool true)], args := [d1, d2] }
  | _ => none }
def fnExactTimeForRow : OpenClaim := { program := "ytnffbnnkcdgckah", sum := "9d91fd73700e2336e7ae0e43931d747d625c2b0a1d33c77333113eec0f4abf21", func := "loop.example/g00147/laws.FnExactTimeFor", spec := "fnExactTimeFor", apart := false }
def FnExactTimeForSaid : Prop := fnExactTimeForRow.holds Try.pinned (OpenSpec.ofChange fnExactTimeForSpec)

/-- ITS FALSE NEIGHBOUR: 'it returns false'. Refute it at one input. -/
def fnExactTimeForWrong : ChangeSpec := { name := "fnExactTimeFor", fn := fun _ => fun
  | [d1, d2] => { results := [.lit (.bool false)], args := [d1, d2] }
  | _ => none }
def FnExactTimeForWrongFalsely : Prop := fnExactTimeForRow.holds Try.pinned (OpenSpec.ofChange fnExactTimeForWrong)

/-- 'laws.FnExactToRate': WHATEVER THE INPUT: true; the input reads as it did. -/
def fnExactToRateSpec : ChangeSpec := { name := "fnExactToRate", fn := fun _ => fun
  | [d] => { results := [.lit (.bool true)], args := [d] }
  | _ => none }
def fnExactToRateRow : OpenClaim := { program := "ytnffbnnkcdgckah", sum := "9d91fd73700e2336e7ae0e43931d747d625c2b0a1d33c77333113eec0f4abf21", func := "loop.example/g00147/laws.FnExactToRate", spec := "fnExactToRate", apart := false }
def FnExactToRateSaid : Prop := fnExactToRateRow.holds Try.pinned (OpenSpec.ofChange fnExactToRateSpec)

/-- ITS FALSE NEIGHBOUR: 'it returns false'. Refute it at one input. -/
def fnExactToRateWrong : ChangeSpec := { name := "fnExactToRate", fn := fun _ => fun
  | [d] => { results := [.lit (.bool false)], args := [d] }
  | _ => none }
def FnExactToRateWrongFalsely : Prop := fnExactToRateRow.holds Try.pinned (OpenSpec.ofChange fnExactToRateWrong)

/-- 'laws.FnExactSmooth': WHATEVER THE INPUT: true; the input reads as it did. -/
def fnExactSmoothSpec : ChangeSpec := { name := "fnExactSmooth", fn := fun _ => fun
  | [d1, d2, d3] => { results := [.lit (.bool true)], args := [d1, d2, d3] }
  | _ => none }
def fnExactSmoothRow : OpenClaim := { program := "ytnffbnnkcdgckah", sum := "9d91fd73700e2336e7ae0e43931d747d625c2b0a1d33c77333113eec0f4abf21", func := "loop.example/g00147/laws.FnExactSmooth", spec := "fnExactSmooth", apart := false }
def FnExactSmoothSaid : Prop := fnExactSmoothRow.holds Try.pinned (OpenSpec.ofChange fnExactSmoothSpec)

/-- ITS FALSE NEIGHBOUR: 'it returns false'. Refute it at one input. -/
def fnExactSmoothWrong : ChangeSpec := { name := "fnExactSmooth", fn := fun _ => fun
  | [d1, d2, d3] => { results := [.lit (.bool false)], args := [d1, d2, d3] }
  | _ => none }
def FnExactSmoothWrongFalsely : Prop := fnExactSmoothRow.holds Try.pinned (OpenSpec.ofChange fnExactSmoothWrong)

/-- 'laws.FnExactLeast': WHATEVER THE INPUT: true; the input reads as it did. -/
def fnExactLeastSpec : ChangeSpec := { name := "fnExactLeast", fn := fun _ => fun
  | [d1, d2] => { results := [.lit (.bool true)], args := [d1, d2] }
  | _ => none }
def fnExactLeastRow : OpenClaim := { program := "ytnffbnnkcdgckah", sum := "9d91fd73700e2336e7ae0e43931d747d625c2b0a1d33c77333113eec0f4abf21", func := "loop.example/g00147/laws.FnExactLeast", spec := "fnExactLeast", inPlace := ["math.Float64bits"], apart := false }
def FnExactLeastSaid : Prop := fnExactLeastRow.holds Try.pinned (OpenSpec.ofChange fnExactLeastSpec)

/-- ITS FALSE NEIGHBOUR: 'it returns false'. Refute it at one input. -/
def fnExactLeastWrong : ChangeSpec := { name := "fnExactLeast", fn := fun _ => fun
  | [d1, d2] => { results := [.lit (.bool false)], args := [d1, d2] }
  | _ => none }
def FnExactLeastWrongFalsely : Prop := fnExactLeastRow.holds Try.pinned (OpenSpec.ofChange fnExactLeastWrong)

/- THE SECOND FORM. 'bulk': how many values and letters a reading holds, each counted each time it is reached (what is shared counts as often as it is met; a slice's spare places count too). A statement '..UptoSaid' is the law's where the arguments, and the package variables that the reading takes, are together of bulk at most 1048576: NARROWER than '..Said'. Prove '..Said' where nothing that the law and all that it calls make is longer than what came in: it says more and counts as full. Else prove '..UptoSaid'. A law counts once. -/
mutual
def uptoBulk {H : Type} : DataW H → Nat
  | .lit (.string bytes) => bytes.length + 1
  | .lit _ => 1
  | .nil => 1
  | .ptr d => uptoBulk d + 1
  | .slice elems spare => uptoBulkAll elems + uptoBulkAll spare + 1
  | .agg parts => uptoBulkAll parts + 1
  | .iface _ d => uptoBulk d + 1
  | .map entries => uptoBulkEntries entries + 1
  | .held _ => 1
def uptoBulkAll {H : Type} : List (DataW H) → Nat
  | [] => 0
  | d :: r => uptoBulk d + uptoBulkAll r
def uptoBulkEntries {H : Type} : List (Lit × DataW H) → Nat
  | [] => 0
  | x :: r => uptoBulkEntry x + uptoBulkEntries r
def uptoBulkEntry {H : Type} : Lit × DataW H → Nat
  | (.string bytes, d) => bytes.length + uptoBulk d + 1
  | (_, d) => uptoBulk d + 1
 end
def uptoSmall : (H : Type) → List (DataW H) → Bool := fun _ ds => decide (uptoBulkAll ds ≤ 1048576)
def OpenSpec.upto (s : _root_.Go.ChangeSpec) : _root_.Go.OpenSpec := { _root_.Go.OpenSpec.ofChange s with cond := some uptoSmall }

/-- 'laws.FnExactCubeRoot', WHERE WHAT IT READS IS OF BULK AT MOST 1048576: true; the input reads as it did. -/
def fnExactCubeRootUptoRow : OpenClaim := { program := "ytnffbnnkcdgckah", sum := "9d91fd73700e2336e7ae0e43931d747d625c2b0a1d33c77333113eec0f4abf21", func := "loop.example/g00147/laws.FnExactCubeRoot", spec := "fnExactCubeRoot", apart := false, narrowed := true }
def FnExactCubeRootUptoSaid : Prop := fnExactCubeRootUptoRow.holds Try.pinned (OpenSpec.upto fnExactCubeRootSpec)

/-- 'laws.FnExactBytes', WHERE WHAT IT READS IS OF BULK AT MOST 1048576: true; the input reads as it did. -/
def fnExactBytesUptoRow : OpenClaim := { program := "ytnffbnnkcdgckah", sum := "9d91fd73700e2336e7ae0e43931d747d625c2b0a1d33c77333113eec0f4abf21", func := "loop.example/g00147/laws.FnExactBytes", spec := "fnExactBytes", apart := false, narrowed := true }
def FnExactBytesUptoSaid : Prop := fnExactBytesUptoRow.holds Try.pinned (OpenSpec.upto fnExactBytesSpec)

/-- 'laws.FnExactTimeFor', WHERE WHAT IT READS IS OF BULK AT MOST 1048576: true; the input reads as it did. -/
def fnExactTimeForUptoRow : OpenClaim := { program := "ytnffbnnkcdgckah", sum := "9d91fd73700e2336e7ae0e43931d747d625c2b0a1d33c77333113eec0f4abf21", func := "loop.example/g00147/laws.FnExactTimeFor", spec := "fnExactTimeFor", apart := false, narrowed := true }
def FnExactTimeForUptoSaid : Prop := fnExactTimeForUptoRow.holds Try.pinned (OpenSpec.upto fnExactTimeForSpec)

/-- 'laws.FnExactToRate', WHERE WHAT IT READS IS OF BULK AT MOST 1048576: true; the input reads as it did. -/
def fnExactToRateUptoRow : OpenClaim := { program := "ytnffbnnkcdgckah", sum := "9d91fd73700e2336e7ae0e43931d747d625c2b0a1d33c77333113eec0f4abf21", func := "loop.example/g00147/laws.FnExactToRate", spec := "fnExactToRate", apart := false, narrowed := true }
def FnExactToRateUptoSaid : Prop := fnExactToRateUptoRow.holds Try.pinned (OpenSpec.upto fnExactToRateSpec)

/-- 'laws.FnExactSmooth', WHERE WHAT IT READS IS OF BULK AT MOST 1048576: true; the input reads as it did. -/
def fnExactSmoothUptoRow : OpenClaim := { program := "ytnffbnnkcdgckah", sum := "9d91fd73700e2336e7ae0e43931d747d625c2b0a1d33c77333113eec0f4abf21", func := "loop.example/g00147/laws.FnExactSmooth", spec := "fnExactSmooth", apart := false, narrowed := true }
def FnExactSmoothUptoSaid : Prop := fnExactSmoothUptoRow.holds Try.pinned (OpenSpec.upto fnExactSmoothSpec)

/-- 'laws.FnExactLeast', WHERE WHAT IT READS IS OF BULK AT MOST 1048576: true; the input reads as it did. -/
def fnExactLeastUptoRow : OpenClaim := { program := "ytnffbnnkcdgckah", sum := "9d91fd73700e2336e7ae0e43931d747d625c2b0a1d33c77333113eec0f4abf21", func := "loop.example/g00147/laws.FnExactLeast", spec := "fnExactLeast", inPlace := ["math.Float64bits"], apart := false, narrowed := true }
def FnExactLeastUptoSaid : Prop := fnExactLeastUptoRow.holds Try.pinned (OpenSpec.upto fnExactLeastSpec)

end Rows
end Go.Proofs.Ytnffbnnkcdgckah
