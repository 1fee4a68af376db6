/-
  No cell of these rows narrows 'for every input' (looked for: loops, veiled, ifaces, maps, wideKeys, modest, calm, conditions, laid).
  DERIVED. THE GIVEN ROWS OF THIS SEAT. 6 by the template 'for every input the law returns true; each argument reads behind the call as it read before'; 0 by the template 'total and deterministic' (their statements: YtacahpmcmfmgkamTotals.lean).
  GIVEN WITH THE SEED: the statements are not yours to turn. If you find one false, say at which input.
  Laid BY PROGRAM, IN A SANDBOX (cutbox-rows.mjs): the forced cells as the released guide's own fill.sh prints them over the translation 1a757f589063986f… (all of the seat's roots in one cut). By AI agents, Wed Nov 11 2026. No macro, syntax, notation, axiom, sorry.
-/
import Derived.Test.YtacahpmcmfmgkamChecked
import GoSem.Claim
import GoSem.ClaimJoined
import GoSem.ClaimMapViews
import Derived.JoinedTies
import Derived.KernelRfl
namespace Go.Proofs.Ytacahpmcmfmgkam
/- THE CELL 'sum', in the pinned program and in every row, IS THE sha256 OF THE DUMP (.gsa) THAT YtacahpmcmfmgkamProg.lean LOADS. Nothing in Lean hashes anything: it is a label: what it is worth is what the hold of that sum in a sandbox is worth. -/
noncomputable def Try.pinned : Pinned := { name := "ytacahpmcmfmgkam", sum := "1a757f589063986f63305b887d108f8181bb23b89bc8af528ab7ddc8b3a5d4c2", checked := Try.checked }
namespace Rows
def none {H : Type} : Left H := { results := [], args := [] }

/-- 'laws.FnExactAsk': WHATEVER THE INPUT: true; the input reads as it did. -/
def fnExactAskSpec : ChangeSpec := { name := "fnExactAsk", fn := fun _ => fun
  | [d1, d2, d3, d4] => { results := [.lit (.bool true)], args := [d1, d2, d3, d4] }
  | _ => none }
def fnExactAskRow : OpenClaim := { program := "ytacahpmcmfmgkam", sum := "1a757f589063986f63305b887d108f8181bb23b89bc8af528ab7ddc8b3a5d4c2", func := "loop.example/g00147/laws.FnExactAsk", spec := "fnExactAsk", unfollowed := true, recurses := true, apart := false }
def FnExactAskSaid : Prop := fnExactAskRow.holds Try.pinned (OpenSpec.ofChange fnExactAskSpec)

/-- ITS FALSE NEIGHBOUR: 'it returns false'. Refute it at one input. -/
def fnExactAskWrong : ChangeSpec := { name := "fnExactAsk", fn := fun _ => fun
  | [d1, d2, d3, d4] => { results := [.lit (.bool false)], args := [d1, d2, d3, d4] }
  | _ => none }
def FnExactAskWrongFalsely : Prop := fnExactAskRow.holds Try.pinned (OpenSpec.ofChange fnExactAskWrong)

/-- 'laws.FnExactSpend': WHATEVER THE INPUT: true; the input reads as it did. -/
def fnExactSpendSpec : ChangeSpec := { name := "fnExactSpend", fn := fun _ => fun
  | [d1, d2, d3, d4] => { results := [.lit (.bool true)], args := [d1, d2, d3, d4] }
  | _ => none }
def fnExactSpendRow : OpenClaim := { program := "ytacahpmcmfmgkam", sum := "1a757f589063986f63305b887d108f8181bb23b89bc8af528ab7ddc8b3a5d4c2", func := "loop.example/g00147/laws.FnExactSpend", spec := "fnExactSpend", unfollowed := true, recurses := true, apart := false }
def FnExactSpendSaid : Prop := fnExactSpendRow.holds Try.pinned (OpenSpec.ofChange fnExactSpendSpec)

/-- ITS FALSE NEIGHBOUR: 'it returns false'. Refute it at one input. -/
def fnExactSpendWrong : ChangeSpec := { name := "fnExactSpend", fn := fun _ => fun
  | [d1, d2, d3, d4] => { results := [.lit (.bool false)], args := [d1, d2, d3, d4] }
  | _ => none }
def FnExactSpendWrongFalsely : Prop := fnExactSpendRow.holds Try.pinned (OpenSpec.ofChange fnExactSpendWrong)

/-- 'laws.FnExactRetree': WHATEVER THE INPUT: true; the input reads as it did. -/
def fnExactRetreeSpec : ChangeSpec := { name := "fnExactRetree", fn := fun _ => fun
  | [d1, d2, d3] => { results := [.lit (.bool true)], args := [d1, d2, d3] }
  | _ => none }
def fnExactRetreeRow : OpenClaim := { program := "ytacahpmcmfmgkam", sum := "1a757f589063986f63305b887d108f8181bb23b89bc8af528ab7ddc8b3a5d4c2", func := "loop.example/g00147/laws.FnExactRetree", spec := "fnExactRetree", unfollowed := true, recurses := true, apart := false }
def FnExactRetreeSaid : Prop := fnExactRetreeRow.holds Try.pinned (OpenSpec.ofChange fnExactRetreeSpec)

/-- ITS FALSE NEIGHBOUR: 'it returns false'. Refute it at one input. -/
def fnExactRetreeWrong : ChangeSpec := { name := "fnExactRetree", fn := fun _ => fun
  | [d1, d2, d3] => { results := [.lit (.bool false)], args := [d1, d2, d3] }
  | _ => none }
def FnExactRetreeWrongFalsely : Prop := fnExactRetreeRow.holds Try.pinned (OpenSpec.ofChange fnExactRetreeWrong)

/-- 'laws.FnExactBound': WHATEVER THE INPUT: true; the input reads as it did. -/
def fnExactBoundSpec : ChangeSpec := { name := "fnExactBound", fn := fun _ => fun
  | [d1, d2, d3] => { results := [.lit (.bool true)], args := [d1, d2, d3] }
  | _ => none }
def fnExactBoundRow : OpenClaim := { program := "ytacahpmcmfmgkam", sum := "1a757f589063986f63305b887d108f8181bb23b89bc8af528ab7ddc8b3a5d4c2", func := "loop.example/g00147/laws.FnExactBound", spec := "fnExactBound", unfollowed := true, recurses := true, apart := false }
def FnExactBoundSaid : Prop := fnExactBoundRow.holds Try.pinned (OpenSpec.ofChange fnExactBoundSpec)

/-- ITS FALSE NEIGHBOUR: 'it returns false'. Refute it at one input. -/
def fnExactBoundWrong : ChangeSpec := { name := "fnExactBound", fn := fun _ => fun
  | [d1, d2, d3] => { results := [.lit (.bool false)], args := [d1, d2, d3] }
  | _ => none }
def FnExactBoundWrongFalsely : Prop := fnExactBoundRow.holds Try.pinned (OpenSpec.ofChange fnExactBoundWrong)

/-- 'laws.FnExactTurnsOk': WHATEVER THE INPUT: true; the input reads as it did. -/
def fnExactTurnsOkSpec : ChangeSpec := { name := "fnExactTurnsOk", fn := fun _ => fun
  | [d] => { results := [.lit (.bool true)], args := [d] }
  | _ => none }
def fnExactTurnsOkRow : OpenClaim := { program := "ytacahpmcmfmgkam", sum := "1a757f589063986f63305b887d108f8181bb23b89bc8af528ab7ddc8b3a5d4c2", func := "loop.example/g00147/laws.FnExactTurnsOk", spec := "fnExactTurnsOk", unfollowed := true, recurses := true, apart := false }
def FnExactTurnsOkSaid : Prop := fnExactTurnsOkRow.holds Try.pinned (OpenSpec.ofChange fnExactTurnsOkSpec)

/-- ITS FALSE NEIGHBOUR: 'it returns false'. Refute it at one input. -/
def fnExactTurnsOkWrong : ChangeSpec := { name := "fnExactTurnsOk", fn := fun _ => fun
  | [d] => { results := [.lit (.bool false)], args := [d] }
  | _ => none }
def FnExactTurnsOkWrongFalsely : Prop := fnExactTurnsOkRow.holds Try.pinned (OpenSpec.ofChange fnExactTurnsOkWrong)

/-- 'laws.FnExactQueue': WHATEVER THE INPUT: true; the input reads as it did. -/
def fnExactQueueSpec : ChangeSpec := { name := "fnExactQueue", fn := fun _ => fun
  | [d1, d2, d3] => { results := [.lit (.bool true)], args := [d1, d2, d3] }
  | _ => none }
def fnExactQueueRow : OpenClaim := { program := "ytacahpmcmfmgkam", sum := "1a757f589063986f63305b887d108f8181bb23b89bc8af528ab7ddc8b3a5d4c2", func := "loop.example/g00147/laws.FnExactQueue", spec := "fnExactQueue", unfollowed := true, recurses := true, apart := false }
def FnExactQueueSaid : Prop := fnExactQueueRow.holds Try.pinned (OpenSpec.ofChange fnExactQueueSpec)

/-- ITS FALSE NEIGHBOUR: 'it returns false'. Refute it at one input. -/
def fnExactQueueWrong : ChangeSpec := { name := "fnExactQueue", fn := fun _ => fun
  | [d1, d2, d3] => { results := [.lit (.bool false)], args := [d1, d2, d3] }
  | _ => none }
def FnExactQueueWrongFalsely : Prop := fnExactQueueRow.holds Try.pinned (OpenSpec.ofChange fnExactQueueWrong)

/- THE SECOND FORM. 'bulk': how many values and letters a reading holds, each counted each time it is reached (what is shared counts as often as it is met; a slice's spare places count too). A statement '..UptoSaid' is the law's where the arguments, and the package variables that the reading takes, are together of bulk at most 1048576: NARROWER than '..Said'. Prove '..Said' where nothing that the law and all that it calls make is longer than what came in: it says more and counts as full. Else prove '..UptoSaid'. A law counts once. -/
mutual
def uptoBulk {H : Type} : DataW H → Nat
  | .lit (.string bytes) => bytes.length + 1
  | .lit _ => 1
  | .nil => 1
  | .ptr d => uptoBulk d + 1
  | .slice elems spare => uptoBulkAll elems + uptoBulkAll spare + 1
  | .agg parts => uptoBulkAll parts + 1
  | .iface _ d => uptoBulk d + 1
  | .map entries => uptoBulkEntries entries + 1
  | .held _ => 1
def uptoBulkAll {H : Type} : List (DataW H) → Nat
  | [] => 0
  | d :: r => uptoBulk d + uptoBulkAll r
def uptoBulkEntries {H : Type} : List (Lit × DataW H) → Nat
  | [] => 0
  | x :: r => uptoBulkEntry x + uptoBulkEntries r
def uptoBulkEntry {H : Type} : Lit × DataW H → Nat
  | (.string bytes, d) => bytes.length + uptoBulk d + 1
  | (_, d) => uptoBulk d + 1
 end
def uptoSmall : (H : Type) → List (DataW H) → Bool := fun _ ds => decide (uptoBulkAll ds ≤ 1048576)
def OpenSpec.upto (s : _root_.Go.ChangeSpec) : _root_.Go.OpenSpec := { _root_.Go.OpenSpec.ofChange s with cond := some uptoSmall }

/-- 'laws.FnExactAsk', WHERE WHAT IT READS IS OF BULK AT MOST 1048576: true; the input reads as it did. -/
def fnExactAskUptoRow : OpenClaim := { program := "ytacahpmcmfmgkam", sum := "1a757f589063986f63305b887d108f8181bb23b89bc8af528ab7ddc8b3a5d4c2", func := "loop.example/g00147/laws.FnExactAsk", spec := "fnExactAsk", unfollowed := true, recurses := true, apart := false, narrowed := true }
def FnExactAskUptoSaid : Prop := fnExactAskUptoRow.holds Try.pinned (OpenSpec.upto fnExactAskSpec)

/-- 'laws.FnExactSpend', WHERE WHAT IT READS IS OF BULK AT MOST 1048576: true; the input reads as it did. -/
def fnExactSpendUptoRow : OpenClaim := { program := "ytacahpmcmfmgkam", sum := "1a757f589063986f63305b887d108f8181bb23b89bc8af528ab7ddc8b3a5d4c2", func := "loop.example/g00147/laws.FnExactSpend", spec := "fnExactSpend", unfollowed := true, recurses := true, apart := false, narrowed := true }
def FnExactSpendUptoSaid : Prop := fnExactSpendUptoRow.holds Try.pinned (OpenSpec.upto fnExactSpendSpec)

/-- 'laws.FnExactRetree', WHERE WHAT IT READS IS OF BULK AT MOST 1048576: true; the input reads as it did. -/
def fnExactRetreeUptoRow : OpenClaim := { program := "ytacahpmcmfmgkam", sum := "1a757f589063986f63305b887d108f8181bb23b89bc8af528ab7ddc8b3a5d4c2", func := "loop.example/g00147/laws.FnExactRetree", spec := "fnExactRetree", unfollowed := true, recurses := true, apart := false, narrowed := true }
def FnExactRetreeUptoSaid : Prop := fnExactRetreeUptoRow.holds Try.pinned (OpenSpec.upto fnExactRetreeSpec)

/-- 'laws.FnExactBound', WHERE WHAT IT READS IS OF BULK AT MOST 1048576: true; the input reads as it did. -/
def fnExactBoundUptoRow : OpenClaim := { program := "ytacahpmcmfmgkam", sum := "1a757f589063986f63305b887d108f8181bb23b89bc8af528ab7ddc8b3a5d4c2", func := "loop.example/g00147/laws.FnExactBound", spec := "fnExactBound", unfollowed := true, recurses := true, apart := false, narrowed := true }
def FnExactBoundUptoSaid : Prop := fnExactBoundUptoRow.holds Try.pinned (OpenSpec.upto fnExactBoundSpec)

/-- 'laws.FnExactTurnsOk', WHERE WHAT IT READS IS OF BULK AT MOST 1048576: true; the input reads as it did. -/
def fnExactTurnsOkUptoRow : OpenClaim := { program := "ytacahpmcmfmgkam", sum := "1a757f589063986f63305b887d108f8181bb23b89bc8af528ab7ddc8b3a5d4c2", func := "loop.example/g00147/laws.FnExactTurnsOk", spec := "fnExactTurnsOk", unfollowed := true, recurses := true, apart := false, narrowed := true }
def FnExactTurnsOkUptoSaid : Prop := fnExactTurnsOkUptoRow.holds Try.pinned (OpenSpec.upto fnExactTurnsOkSpec)

/-- 'laws.FnExactQueue', WHERE WHAT IT READS IS OF BULK AT MOST 1048576: true; the input reads as it did. -/
def fnExactQueueUptoRow : OpenClaim := { program := "ytacahpmcmfmgkam", sum := "1a757f589063986f63305b887d108f8181bb23b89bc8af528ab7ddc8b3a5d4c2", func := "loop.example/g00147/laws.FnExactQueue", spec := "fnExactQueue", unfollowed := true, recurses := true, apart := false, narrowed := true }
def FnExactQueueUptoSaid : Prop := fnExactQueueUptoRow.holds Try.pinned (OpenSpec.upto fnExactQueueSpec)

end Rows
end Go.Proofs.Ytacahpmcmfmgkam
