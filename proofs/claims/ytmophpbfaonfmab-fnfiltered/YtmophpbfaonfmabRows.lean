/-
  No cell of these rows narrows 'for every input' (looked for: loops, veiled, ifaces, maps, wideKeys, modest, calm, conditions, laid).
  DERIVED. THE GIVEN ROWS OF THIS SEAT. 6 by the template 'for every input the law returns true; each argument reads behind the call as it read before'; 0 by the template 'total and deterministic' (their statements: YtmophpbfaonfmabTotals.lean).
  GIVEN WITH THE SEED: the statements are not yours to turn. If you find one false, say at which input.
  Laid BY PROGRAM, IN A SANDBOX (cutbox-rows.mjs): the forced cells as the released guide's own fill.sh prints them over the translation a56fcec61a8468c9… (all of the seat's roots in one cut). By AI agents, Wed Nov 11 2026. No macro, syntax, notation, axiom, sorry.
-/
import Derived.Test.YtmophpbfaonfmabChecked
import GoSem.Claim
import GoSem.ClaimJoined
import GoSem.ClaimMapViews
import Derived.JoinedTies
import Derived.KernelRfl
namespace Go.Proofs.Ytmophpbfaonfmab
/- THE CELL 'sum', in the pinned program and in every row, IS THE sha256 OF THE DUMP (.gsa) THAT YtmophpbfaonfmabProg.lean LOADS. Nothing in Lean hashes anything: it is a label: what it is worth is what the hold of that sum in a sandbox is worth. -/
noncomputable def Try.pinned : Pinned := { name := "ytmophpbfaonfmab", sum := "a56fcec61a8468c9345a14b95cb68ef854242e980d26fafda404631a5adabf67", checked := Try.checked }
namespace Rows
def none {H : Type} : Left H := { results := [], args := [] }

/-- 'laws.FnSmoothed': WHATEVER THE INPUT: true; the input reads as it did. -/
def fnSmoothedSpec : ChangeSpec := { name := "fnSmoothed", fn := fun _ => fun
  | [d] => { results := [.lit (.bool true)], args := [d] }
  | _ => none }
def fnSmoothedRow : OpenClaim := { program := "ytmophpbfaonfmab", sum := "a56fcec61a8468c9345a14b95cb68ef854242e980d26fafda404631a5adabf67", func := "loop.example/g00147/laws.FnSmoothed", spec := "fnSmoothed", apart := false }
def FnSmoothedSaid : Prop := fnSmoothedRow.holds Try.pinned (OpenSpec.ofChange fnSmoothedSpec)

/-- ITS FALSE NEIGHBOUR: 'it returns false'. Refute it at one input. -/
def fnSmoothedWrong : ChangeSpec := { name := "fnSmoothed", fn := fun _ => fun
  | [d] => { results := [.lit (.bool false)], args := [d] }
  | _ => none }
def FnSmoothedWrongFalsely : Prop := fnSmoothedRow.holds Try.pinned (OpenSpec.ofChange fnSmoothedWrong)

/-- 'laws.FnRates': WHATEVER THE INPUT: true; the input reads as it did. -/
def fnRatesSpec : ChangeSpec := { name := "fnRates", fn := fun _ => fun
  | [d] => { results := [.lit (.bool true)], args := [d] }
  | _ => none }
def fnRatesRow : OpenClaim := { program := "ytmophpbfaonfmab", sum := "a56fcec61a8468c9345a14b95cb68ef854242e980d26fafda404631a5adabf67", func := "loop.example/g00147/laws.FnRates", spec := "fnRates", apart := false }
def FnRatesSaid : Prop := fnRatesRow.holds Try.pinned (OpenSpec.ofChange fnRatesSpec)

/-- ITS FALSE NEIGHBOUR: 'it returns false'. Refute it at one input. -/
def fnRatesWrong : ChangeSpec := { name := "fnRates", fn := fun _ => fun
  | [d] => { results := [.lit (.bool false)], args := [d] }
  | _ => none }
def FnRatesWrongFalsely : Prop := fnRatesRow.holds Try.pinned (OpenSpec.ofChange fnRatesWrong)

/-- 'laws.FnFiltered': WHATEVER THE INPUT: true; the input reads as it did. -/
def fnFilteredSpec : ChangeSpec := { name := "fnFiltered", fn := fun _ => fun
  | [d] => { results := [.lit (.bool true)], args := [d] }
  | _ => none }
def fnFilteredRow : OpenClaim := { program := "ytmophpbfaonfmab", sum := "a56fcec61a8468c9345a14b95cb68ef854242e980d26fafda404631a5adabf67", func := "loop.example/g00147/laws.FnFiltered", spec := "fnFiltered", unfollowed := true, recurses := true, apart := false }
def FnFilteredSaid : Prop := fnFilteredRow.holds Try.pinned (OpenSpec.ofChange fnFilteredSpec)

/-- ITS FALSE NEIGHBOUR: 'it returns false'. Refute it at one input. -/
def fnFilteredWrong : ChangeSpec := { name := "fnFiltered", fn := fun _ => fun
  | [d] => { results := [.lit (.bool false)], args := [d] }
  | _ => none }
def FnFilteredWrongFalsely : Prop := fnFilteredRow.holds Try.pinned (OpenSpec.ofChange fnFilteredWrong)

/-- 'laws.FnSince': WHATEVER THE INPUT: true; the input reads as it did. -/
def fnSinceSpec : ChangeSpec := { name := "fnSince", fn := fun _ => fun
  | [d] => { results := [.lit (.bool true)], args := [d] }
  | _ => none }
def fnSinceRow : OpenClaim := { program := "ytmophpbfaonfmab", sum := "a56fcec61a8468c9345a14b95cb68ef854242e980d26fafda404631a5adabf67", func := "loop.example/g00147/laws.FnSince", spec := "fnSince", apart := false }
def FnSinceSaid : Prop := fnSinceRow.holds Try.pinned (OpenSpec.ofChange fnSinceSpec)

/-- ITS FALSE NEIGHBOUR: 'it returns false'. Refute it at one input. -/
def fnSinceWrong : ChangeSpec := { name := "fnSince", fn := fun _ => fun
  | [d] => { results := [.lit (.bool false)], args := [d] }
  | _ => none }
def FnSinceWrongFalsely : Prop := fnSinceRow.holds Try.pinned (OpenSpec.ofChange fnSinceWrong)

/-- 'laws.FnTaken': WHATEVER THE INPUT: true; the input reads as it did. -/
def fnTakenSpec : ChangeSpec := { name := "fnTaken", fn := fun _ => fun
  | [d] => { results := [.lit (.bool true)], args := [d] }
  | _ => none }
def fnTakenRow : OpenClaim := { program := "ytmophpbfaonfmab", sum := "a56fcec61a8468c9345a14b95cb68ef854242e980d26fafda404631a5adabf67", func := "loop.example/g00147/laws.FnTaken", spec := "fnTaken", unfollowed := true, recurses := true, apart := false }
def FnTakenSaid : Prop := fnTakenRow.holds Try.pinned (OpenSpec.ofChange fnTakenSpec)

/-- ITS FALSE NEIGHBOUR: 'it returns false'. Refute it at one input. -/
def fnTakenWrong : ChangeSpec := { name := "fnTaken", fn := fun _ => fun
  | [d] => { results := [.lit (.bool false)], args := [d] }
  | _ => none }
def FnTakenWrongFalsely : Prop := fnTakenRow.holds Try.pinned (OpenSpec.ofChange fnTakenWrong)

/-- 'laws.FnWhen': WHATEVER THE INPUT: true; the input reads as it did. -/
def fnWhenSpec : ChangeSpec := { name := "fnWhen", fn := fun _ => fun
  | [d] => { results := [.lit (.bool true)], args := [d] }
  | _ => none }
def fnWhenRow : OpenClaim := { program := "ytmophpbfaonfmab", sum := "a56fcec61a8468c9345a14b95cb68ef854242e980d26fafda404631a5adabf67", func := "loop.example/g00147/laws.FnWhen", spec := "fnWhen", unfollowed := true, recurses := true, apart := false }
def FnWhenSaid : Prop := fnWhenRow.holds Try.pinned (OpenSpec.ofChange fnWhenSpec)

/-- ITS FALSE NEIGHBOUR: 'it returns false'. Refute it at one input. -/
def fnWhenWrong : ChangeSpec := { name := "fnWhen", fn := fun _ => fun
  | [d] => { results := [.lit (.bool false)], args := [d] }
  | _ => none }
def FnWhenWrongFalsely : Prop := fnWhenRow.holds Try.pinned (OpenSpec.ofChange fnWhenWrong)

/- THE SECOND FORM. 'bulk': how many values and letters a reading holds, each counted each time it is reached (what is shared counts as often as it is met; a slice's spare places count too). A statement '..UptoSaid' is the law's where the arguments, and the package variables that the reading takes, are together of bulk at most 1048576: NARROWER than '..Said'. Prove '..Said' where nothing that the law and all that it calls make is longer than what came in: it says more and counts as full. Else prove '..UptoSaid'. A law counts once. -/
mutual
def uptoBulk {H : Type} : DataW H → Nat
  | .lit (.string bytes) => bytes.length + 1
  | .lit _ => 1
  | .nil => 1
  | .ptr d => uptoBulk d + 1
  | .slice elems spare => uptoBulkAll elems + uptoBulkAll spare + 1
  | .agg parts => uptoBulkAll parts + 1
  | .iface _ d => uptoBulk d + 1
  | .map entries => uptoBulkEntries entries + 1
  | .held _ => 1
def uptoBulkAll {H : Type} : List (DataW H) → Nat
  | [] => 0
  | d :: r => uptoBulk d + uptoBulkAll r
def uptoBulkEntries {H : Type} : List (Lit × DataW H) → Nat
  | [] => 0
  | x :: r => uptoBulkEntry x + uptoBulkEntries r
def uptoBulkEntry {H : Type} : Lit × DataW H → Nat
  | (.string bytes, d) => bytes.length + uptoBulk d + 1
  | (_, d) => uptoBulk d + 1
 end
def uptoSmall : (H : Type) → List (DataW H) → Bool := fun _ ds => decide (uptoBulkAll ds ≤ 1048576)
def OpenSpec.upto (s : _root_.Go.ChangeSpec) : _root_.Go.OpenSpec := { _root_.Go.OpenSpec.ofChange s with cond := some uptoSmall }

/-- 'laws.FnSmoothed', WHERE WHAT IT READS IS OF BULK AT MOST 1048576: true; the input reads as it did. -/
def fnSmoothedUptoRow : OpenClaim := { program := "ytmophpbfaonfmab", sum := "a56fcec61a8468c9345a14b95cb68ef854242e980d26fafda404631a5adabf67", func := "loop.example/g00147/laws.FnSmoothed", spec := "fnSmoothed", apart := false, narrowed := true }
def FnSmoothedUptoSaid : Prop := fnSmoothedUptoRow.holds Try.pinned (OpenSpec.upto fnSmoothedSpec)

/-- 'laws.FnRates', WHERE WHAT IT READS IS OF BULK AT MOST 1048576: true; the input reads as it did. -/
def fnRatesUptoRow : OpenClaim := { program := "ytmophpbfaonfmab", sum := "a56fcec61a8468c9345a14b95cb68ef854242e980d26fafda404631a5adabf67", func := "loop.example/g00147/laws.FnRates", spec := "fnRates", apart := false, narrowed := true }
def FnRatesUptoSaid : Prop := fnRatesUptoRow.holds Try.pinned (OpenSpec.upto fnRatesSpec)

/-- 'laws.FnFiltered', WHERE WHAT IT READS IS OF BULK AT MOST 1048576: true; the input reads as it did. -/
def fnFilteredUptoRow : OpenClaim := { program := "ytmophpbfaonfmab", sum := "a56fcec61a8468c9345a14b95cb68ef854242e980d26fafda404631a5adabf67", func := "loop.example/g00147/laws.FnFiltered", spec := "fnFiltered", unfollowed := true, recurses := true, apart := false, narrowed := true }
def FnFilteredUptoSaid : Prop := fnFilteredUptoRow.holds Try.pinned (OpenSpec.upto fnFilteredSpec)

/-- 'laws.FnSince', WHERE WHAT IT READS IS OF BULK AT MOST 1048576: true; the input reads as it did. -/
def fnSinceUptoRow : OpenClaim := { program := "ytmophpbfaonfmab", sum := "a56fcec61a8468c9345a14b95cb68ef854242e980d26fafda404631a5adabf67", func := "loop.example/g00147/laws.FnSince", spec := "fnSince", apart := false, narrowed := true }
def FnSinceUptoSaid : Prop := fnSinceUptoRow.holds Try.pinned (OpenSpec.upto fnSinceSpec)

/-- 'laws.FnTaken', WHERE WHAT IT READS IS OF BULK AT MOST 1048576: true; the input reads as it did. -/
def fnTakenUptoRow : OpenClaim := { program := "ytmophpbfaonfmab", sum := "a56fcec61a8468c9345a14b95cb68ef854242e980d26fafda404631a5adabf67", func := "loop.example/g00147/laws.FnTaken", spec := "fnTaken", unfollowed := true, recurses := true, apart := false, narrowed := true }
def FnTakenUptoSaid : Prop := fnTakenUptoRow.holds Try.pinned (OpenSpec.upto fnTakenSpec)

/-- 'laws.FnWhen', WHERE WHAT IT READS IS OF BULK AT MOST 1048576: true; the input reads as it did. -/
def fnWhenUptoRow : OpenClaim := { program := "ytmophpbfaonfmab", sum := "a56fcec61a8468c9345a14b95cb68ef854242e980d26fafda404631a5adabf67", func := "loop.example/g00147/laws.FnWhen", spec := "fnWhen", unfollowed := true, recurses := true, apart := false, narrowed := true }
def FnWhenUptoSaid : Prop := fnWhenUptoRow.holds Try.pinned (OpenSpec.upto fnWhenSpec)

end Rows
end Go.Proofs.Ytmophpbfaonfmab
