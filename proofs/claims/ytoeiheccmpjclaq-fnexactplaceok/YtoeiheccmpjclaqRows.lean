/-
  No cell of these rows narrows 'for every input' (looked for: loops, veiled, ifaces, maps, wideKeys, modest, calm, conditions, laid).
  DERIVED. THE GIVEN ROWS OF THIS SEAT. 6 by the template 'for every input the law returns true; each argument reads behind the call as it read before'; 0 by the template 'total and deterministic' (their statements: YtoeiheccmpjclaqTotals.lean).
  GIVEN WITH THE SEED: the statements are not yours to turn. If you find one false, say at which input.
  Laid BY PROGRAM, IN A SANDBOX (cutbox-rows.mjs): the forced cells as the released guide's own fill.sh prints them over the translation ba3d534326c0a0f5… (all of the seat's roots in one cut). By AI agents, Wed Nov 11 2026. No macro, syntax, notation, axiom, sorry.
-/
import Derived.Test.YtoeiheccmpjclaqChecked
import GoSem.Claim
import GoSem.ClaimJoined
import GoSem.ClaimMapViews
import Derived.JoinedTies
import Derived.KernelRfl
namespace Go.Proofs.Ytoeiheccmpjclaq
/- THE CELL 'sum', in the pinned program and in every row, IS THE sha256 OF THE DUMP (.gsa) THAT YtoeiheccmpjclaqProg.lean LOADS. Nothing in Lean hashes anything: it is a label: what it is worth is what the hold of that sum in a sandbox is worth. -/
noncomputable def Try.pinned : Pinned := { name := "ytoeiheccmpjclaq", sum := "ba3d534326c0a0f5b81952b202b9734949249b1287e9f581915ba78fe251facf", checked := Try.checked }
namespace Rows
def none {H : Type} : Left H := { results := [], args := [] }

/-- 'laws.FnExactNewProbe': WHATEVER THE INPUT: true; the input reads as it did. -/
def fnExactNewProbeSpec : ChangeSpec := { name := "fnExactNewProbe", fn := fun _ => fun
  | [d] => { results := [.lit (.bool true)], args := [d] }
  | _ => none }
def fnExactNewProbeRow : OpenClaim := { program := "ytoeiheccmpjclaq", sum := "ba3d534326c0a0f5b81952b202b9734949249b1287e9f581915ba78fe251facf", func := "loop.example/g00147/laws.FnExactNewProbe", spec := "fnExactNewProbe", apart := false }
def FnExactNewProbeSaid : Prop := fnExactNewProbeRow.holds Try.pinned (OpenSpec.ofChange fnExactNewProbeSpec)

/-- ITS FALSE NEIGHBOUR: 'it returns false'. Refute it at one input. -/
def fnExactNewProbeWrong : ChangeSpec := { name := "fnExactNewProbe", fn := fun _ => fun
  | [d] => { results := [.lit (.bool false)], args := [d] }
  | _ => none }
def FnExactNewProbeWrongFalsely : Prop := fnExactNewProbeRow.holds Try.pinned (OpenSpec.ofChange fnExactNewProbeWrong)

/-- 'laws.FnExactGain': WHATEVER THE INPUT: true; the input reads as it did. -/
def fnExactGainSpec : ChangeSpec := { name := "fnExactGain", fn := fun _ => fun
  | [d] => { results := [.lit (.bool true)], args := [d] }
  | _ => none }
def fnExactGainRow : OpenClaim := { program := "ytoeiheccmpjclaq", sum := "ba3d534326c0a0f5b81952b202b9734949249b1287e9f581915ba78fe251facf", func := "loop.example/g00147/laws.FnExactGain", spec := "fnExactGain", apart := false }
def FnExactGainSaid : Prop := fnExactGainRow.holds Try.pinned (OpenSpec.ofChange fnExactGainSpec)

/-- ITS FALSE NEIGHBOUR: 'it returns false'. Refute it at one input. -/
def fnExactGainWrong : ChangeSpec := { name := "fnExactGain", fn := fun _ => fun
  | [d] => { results := [.lit (.bool false)], args := [d] }
  | _ => none }
def FnExactGainWrongFalsely : Prop := fnExactGainRow.holds Try.pinned (OpenSpec.ofChange fnExactGainWrong)

/-- 'laws.FnExactPace': WHATEVER THE INPUT: true; the input reads as it did. -/
def fnExactPaceSpec : ChangeSpec := { name := "fnExactPace", fn := fun _ => fun
  | [d] => { results := [.lit (.bool true)], args := [d] }
  | _ => none }
def fnExactPaceRow : OpenClaim := { program := "ytoeiheccmpjclaq", sum := "ba3d534326c0a0f5b81952b202b9734949249b1287e9f581915ba78fe251facf", func := "loop.example/g00147/laws.FnExactPace", spec := "fnExactPace", apart := false }
def FnExactPaceSaid : Prop := fnExactPaceRow.holds Try.pinned (OpenSpec.ofChange fnExactPaceSpec)

/-- ITS FALSE NEIGHBOUR: 'it returns false'. Refute it at one input. -/
def fnExactPaceWrong : ChangeSpec := { name := "fnExactPace", fn := fun _ => fun
  | [d] => { results := [.lit (.bool false)], args := [d] }
  | _ => none }
def FnExactPaceWrongFalsely : Prop := fnExactPaceRow.holds Try.pinned (OpenSpec.ofChange fnExactPaceWrong)

/-- 'laws.FnExactCap': WHATEVER THE INPUT: true; the input reads as it did. -/
def fnExactCapSpec : ChangeSpec := { name := "fnExactCap", fn := fun _ => fun
  | [d] => { results := [.lit (.bool true)], args := [d] }
  | _ => none }
def fnExactCapRow : OpenClaim := { program := "ytoeiheccmpjclaq", sum := "ba3d534326c0a0f5b81952b202b9734949249b1287e9f581915ba78fe251facf", func := "loop.example/g00147/laws.FnExactCap", spec := "fnExactCap", apart := false }
def FnExactCapSaid : Prop := fnExactCapRow.holds Try.pinned (OpenSpec.ofChange fnExactCapSpec)

/-- ITS FALSE NEIGHBOUR: 'it returns false'. Refute it at one input. -/
def fnExactCapWrong : ChangeSpec := { name := "fnExactCap", fn := fun _ => fun
  | [d] => { results := [.lit (.bool false)], args := [d] }
  | _ => none }
def FnExactCapWrongFalsely : Prop := fnExactCapRow.holds Try.pinned (OpenSpec.ofChange fnExactCapWrong)

/-- 'laws.FnExactObserve': WHATEVER THE INPUT: true; the input reads as it did. -/
def fnExactObserveSpec : ChangeSpec := { name := "fnExactObserve", fn := fun _ => fun
  | [d1, d2, d3, d4, d5] => { results := [.lit (.bool true)], args := [d1, d2, d3, d4, d5] }
  | _ => none }
def fnExactObserveRow : OpenClaim := { program := "ytoeiheccmpjclaq", sum := "ba3d534326c0a0f5b81952b202b9734949249b1287e9f581915ba78fe251facf", func := "loop.example/g00147/laws.FnExactObserve", spec := "fnExactObserve", unfollowed := true, recurses := true, apart := false }
def FnExactObserveSaid : Prop := fnExactObserveRow.holds Try.pinned (OpenSpec.ofChange fnExactObserveSpec)

/-- ITS FALSE NEIGHBOUR: 'it returns false'. Refute it at one input. -/
def fnExactObserveWrong : ChangeSpec := { name := "fnExactObserve", fn := fun _ => fun
  | [d1, d2, d3, d4, d5] => { results := [.lit (.bool false)], args := [d1, d2, d3, d4, d5] }
  | _ => none }
def FnExactObserveWrongFalsely : Prop := fnExactObserveRow.holds Try.pinned (OpenSpec.ofChange fnExactObserveWrong)

/-- 'laws.FnExactPlaceOk': WHATEVER THE INPUT: true; the input reads as it did. -/
def fnExactPlaceOkSpec : ChangeSpec := { name := "fnExactPlaceOk", fn := fun _ => fun
  | [d] => { results := [.lit (.bool true)], args := [d] }
  | _ => none }
def fnExactPlaceOkRow : OpenClaim := { program := "ytoeiheccmpjclaq", sum := "ba3d534326c0a0f5b81952b202b9734949249b1287e9f581915ba78fe251facf", func := "loop.example/g00147/laws.FnExactPlaceOk", spec := "fnExactPlaceOk", apart := false }
def FnExactPlaceOkSaid : Prop := fnExactPlaceOkRow.holds Try.pinned (OpenSpec.ofChange fnExactPlaceOkSpec)

/-- ITS FALSE NEIGHBOUR: 'it returns false'. Refute it at one input. -/
def fnExactPlaceOkWrong : ChangeSpec := { name := "fnExactPlaceOk", fn := fun _ => fun
  | [d] => { results := [.lit (.bool false)], args := [d] }
  | _ => none }
def FnExactPlaceOkWrongFalsely : Prop := fnExactPlaceOkRow.holds Try.pinned (OpenSpec.ofChange fnExactPlaceOkWrong)

/- THE SECOND FORM. 'bulk': how many values and letters a reading holds, each counted each time it is reached (what is shared counts as often as it is met; a slice's spare places count too). A statement '..UptoSaid' is the law's where the arguments, and the package variables that the reading takes, are together of bulk at most 1048576: NARROWER than '..Said'. Prove '..Said' where nothing that the law and all that it calls make is longer than what came in: it says more and counts as full. Else prove '..UptoSaid'. A law counts once. -/
mutual
def uptoBulk {H : Type} : DataW H → Nat
  | .lit (.string bytes) => bytes.length + 1
  | .lit _ => 1
  | .nil => 1
  | .ptr d => uptoBulk d + 1
  | .slice elems spare => uptoBulkAll elems + uptoBulkAll spare + 1
  | .agg parts => uptoBulkAll parts + 1
  | .iface _ d => uptoBulk d + 1
  | .map entries => uptoBulkEntries entries + 1
  | .held _ => 1
def uptoBulkAll {H : Type} : List (DataW H) → Nat
  | [] => 0
  | d :: r => uptoBulk d + uptoBulkAll r
def uptoBulkEntries {H : Type} : List (Lit × DataW H) → Nat
  | [] => 0
  | x :: r => uptoBulkEntry x + uptoBulkEntries r
def uptoBulkEntry {H : Type} : Lit × DataW H → Nat
  | (.string bytes, d) => bytes.length + uptoBulk d + 1
  | (_, d) => uptoBulk d + 1
 end
def uptoSmall : (H : Type) → List (DataW H) → Bool := fun _ ds => decide (uptoBulkAll ds ≤ 1048576)
def OpenSpec.upto (s : _root_.Go.ChangeSpec) : _root_.Go.OpenSpec := { _root_.Go.OpenSpec.ofChange s with cond := some uptoSmall }

/-- 'laws.FnExactNewProbe', WHERE WHAT IT READS IS OF BULK AT MOST 1048576: true; the input reads as it did. -/
def fnExactNewProbeUptoRow : OpenClaim := { program := "ytoeiheccmpjclaq", sum := "ba3d534326c0a0f5b81952b202b9734949249b1287e9f581915ba78fe251facf", func := "loop.example/g00147/laws.FnExactNewProbe", spec := "fnExactNewProbe", apart := false, narrowed := true }
def FnExactNewProbeUptoSaid : Prop := fnExactNewProbeUptoRow.holds Try.pinned (OpenSpec.upto fnExactNewProbeSpec)

/-- 'laws.FnExactGain', WHERE WHAT IT READS IS OF BULK AT MOST 1048576: true; the input reads as it did. -/
def fnExactGainUptoRow : OpenClaim := { program := "ytoeiheccmpjclaq", sum := "ba3d534326c0a0f5b81952b202b9734949249b1287e9f581915ba78fe251facf", func := "loop.example/g00147/laws.FnExactGain", spec := "fnExactGain", apart := false, narrowed := true }
def FnExactGainUptoSaid : Prop := fnExactGainUptoRow.holds Try.pinned (OpenSpec.upto fnExactGainSpec)

/-- 'laws.FnExactPace', WHERE WHAT IT READS IS OF BULK AT MOST 1048576: true; the input reads as it did. -/
def fnExactPaceUptoRow : OpenClaim := { program := "ytoeiheccmpjclaq", sum := "ba3d534326c0a0f5b81952b202b9734949249b1287e9f581915ba78fe251facf", func := "loop.example/g00147/laws.FnExactPace", spec := "fnExactPace", apart := false, narrowed := true }
def FnExactPaceUptoSaid : Prop := fnExactPaceUptoRow.holds Try.pinned (OpenSpec.upto fnExactPaceSpec)

/-- 'laws.FnExactCap', WHERE WHAT IT READS IS OF BULK AT MOST 1048576: true; the input reads as it did. -/
def fnExactCapUptoRow : OpenClaim := { program := "ytoeiheccmpjclaq", sum := "ba3d534326c0a0f5b81952b202b9734949249b1287e9f581915ba78fe251facf", func := "loop.example/g00147/laws.FnExactCap", spec := "fnExactCap", apart := false, narrowed := true }
def FnExactCapUptoSaid : Prop := fnExactCapUptoRow.holds Try.pinned (OpenSpec.upto fnExactCapSpec)

/-- 'laws.FnExactObserve', WHERE WHAT IT READS IS OF BULK AT MOST 1048576: true; the input reads as it did. -/
def fnExactObserveUptoRow : OpenClaim := { program := "ytoeiheccmpjclaq", sum := "ba3d534326c0a0f5b81952b202b9734949249b1287e9f581915ba78fe251facf", func := "loop.example/g00147/laws.FnExactObserve", spec := "fnExactObserve", unfollowed := true, recurses := true, apart := false, narrowed := true }
def FnExactObserveUptoSaid : Prop := fnExactObserveUptoRow.holds Try.pinned (OpenSpec.upto fnExactObserveSpec)

/-- 'laws.FnExactPlaceOk', WHERE WHAT IT READS IS OF BULK AT MOST 1048576: true; the input reads as it did. -/
def fnExactPlaceOkUptoRow : OpenClaim := { program := "ytoeiheccmpjclaq", sum := "ba3d534326c0a0f5b81952b202b9734949249b1287e9f581915ba78fe251facf", func := "loop.example/g00147/laws.FnExactPlaceOk", spec := "fnExactPlaceOk", apart := false, narrowed := true }
def FnExactPlaceOkUptoSaid : Prop := fnExactPlaceOkUptoRow.holds Try.pinned (OpenSpec.upto fnExactPlaceOkSpec)

end Rows
end Go.Proofs.Ytoeiheccmpjclaq
