/-
  No cell of these rows narrows 'for every input' (looked for: loops, veiled, ifaces, maps, wideKeys, modest, calm, conditions, laid).
  DERIVED. THE GIVEN ROWS OF THIS SEAT. 6 by the template 'for every input the law returns true; each argument reads behind the call as it read before'; 0 by the template 'total and deterministic' (their statements: YtohenfogiegkmanTotals.lean).
  GIVEN WITH THE SEED: the statements are not yours to turn. If you find one false, say at which input.
  Laid BY PROGRAM, IN A SANDBOX (cutbox-rows.mjs): the forced cells as the released guide's own fill.sh prints them over the translation e174c3289a3a33df… (all of the seat's roots in one cut). By AI agents, Wed Nov 11 2026. No macro, syntax, notation, axiom, sorry.
-/
import Derived.Test.YtohenfogiegkmanChecked
import GoSem.Claim
import GoSem.ClaimJoined
import GoSem.ClaimMapViews
import Derived.JoinedTies
import Derived.KernelRfl
namespace Go.Proofs.Ytohenfogiegkman
/- THE CELL 'sum', in the pinned program and in every row, IS THE sha256 OF THE DUMP (.gsa) THAT YtohenfogiegkmanProg.lean LOADS. Nothing in Lean hashes anything: it is a label: what it is worth is what the hold of that sum in a sandbox is worth. -/
noncomputable def Try.pinned : Pinned := { name := "ytohenfogiegkman", sum := "e174c3289a3a33df3c20361fde15ecd3dd913b14ac9dd6b47fe691bc356bf859", checked := Try.checked }
namespace Rows
def none {H : Type} : Left H := { results := [], args := [] }

/-- 'laws.FnExactServe': WHATEVER THE INPUT: true; the input reads as it did. -/
def fnExactServeSpec : ChangeSpec := { name := "fnExactServe", fn := fun _ => fun
  | [d] => { results := [.lit (.bool true)], args := [d] }
  | _ => none }
def fnExactServeRow : OpenClaim := { program := "ytohenfogiegkman", sum := "e174c3289a3a33df3c20361fde15ecd3dd913b14ac9dd6b47fe691bc356bf859", func := "loop.example/g00147/laws.FnExactServe", spec := "fnExactServe", unfollowed := true, recurses := true, apart := false }
def FnExactServeSaid : Prop := fnExactServeRow.holds Try.pinned (OpenSpec.ofChange fnExactServeSpec)

/-- ITS FALSE NEIGHBOUR: 'it returns false'. Refute it at one input. -/
def fnExactServeWrong : ChangeSpec := { name := "fnExactServe", fn := fun _ => fun
  | [d] => { results := [.lit (.bool false)], args := [d] }
  | _ => none }
def FnExactServeWrongFalsely : Prop := fnExactServeRow.holds Try.pinned (OpenSpec.ofChange fnExactServeWrong)

/-- 'laws.FnExactServeAll': WHATEVER THE INPUT: true; the input reads as it did. -/
def fnExactServeAllSpec : ChangeSpec := { name := "fnExactServeAll", fn := fun _ => fun
  | [d1, d2] => { results := [.lit (.bool true)], args := [d1, d2] }
  | _ => none }
def fnExactServeAllRow : OpenClaim := { program := "ytohenfogiegkman", sum := "e174c3289a3a33df3c20361fde15ecd3dd913b14ac9dd6b47fe691bc356bf859", func := "loop.example/g00147/laws.FnExactServeAll", spec := "fnExactServeAll", unfollowed := true, recurses := true, apart := false }
def FnExactServeAllSaid : Prop := fnExactServeAllRow.holds Try.pinned (OpenSpec.ofChange fnExactServeAllSpec)

/-- ITS FALSE NEIGHBOUR: 'it returns false'. Refute it at one input. -/
def fnExactServeAllWrong : ChangeSpec := { name := "fnExactServeAll", fn := fun _ => fun
  | [d1, d2] => { results := [.lit (.bool false)], args := [d1, d2] }
  | _ => none }
def FnExactServeAllWrongFalsely : Prop := fnExactServeAllRow.holds Try.pinned (OpenSpec.ofChange fnExactServeAllWrong)

/-- 'laws.FnExactWaiting': WHATEVER THE INPUT: true; the input reads as it did. -/
def fnExactWaitingSpec : ChangeSpec := { name := "fnExactWaiting", fn := fun _ => fun
  | [d] => { results := [.lit (.bool true)], args := [d] }
  | _ => none }
def fnExactWaitingRow : OpenClaim := { program := "ytohenfogiegkman", sum := "e174c3289a3a33df3c20361fde15ecd3dd913b14ac9dd6b47fe691bc356bf859", func := "loop.example/g00147/laws.FnExactWaiting", spec := "fnExactWaiting", unfollowed := true, recurses := true, apart := false }
def FnExactWaitingSaid : Prop := fnExactWaitingRow.holds Try.pinned (OpenSpec.ofChange fnExactWaitingSpec)

/-- ITS FALSE NEIGHBOUR: 'it returns false'. Refute it at one input. -/
def fnExactWaitingWrong : ChangeSpec := { name := "fnExactWaiting", fn := fun _ => fun
  | [d] => { results := [.lit (.bool false)], args := [d] }
  | _ => none }
def FnExactWaitingWrongFalsely : Prop := fnExactWaitingRow.holds Try.pinned (OpenSpec.ofChange fnExactWaitingWrong)

/-- 'laws.FnExactTripOk': WHATEVER THE INPUT: true; the input reads as it did. -/
def fnExactTripOkSpec : ChangeSpec := { name := "fnExactTripOk", fn := fun _ => fun
  | [d] => { results := [.lit (.bool true)], args := [d] }
  | _ => none }
def fnExactTripOkRow : OpenClaim := { program := "ytohenfogiegkman", sum := "e174c3289a3a33df3c20361fde15ecd3dd913b14ac9dd6b47fe691bc356bf859", func := "loop.example/g00147/laws.FnExactTripOk", spec := "fnExactTripOk", apart := false }
def FnExactTripOkSaid : Prop := fnExactTripOkRow.holds Try.pinned (OpenSpec.ofChange fnExactTripOkSpec)

/-- ITS FALSE NEIGHBOUR: 'it returns false'. Refute it at one input. -/
def fnExactTripOkWrong : ChangeSpec := { name := "fnExactTripOk", fn := fun _ => fun
  | [d] => { results := [.lit (.bool false)], args := [d] }
  | _ => none }
def FnExactTripOkWrongFalsely : Prop := fnExactTripOkRow.holds Try.pinned (OpenSpec.ofChange fnExactTripOkWrong)

/-- 'laws.FnExactMeasure': WHATEVER THE INPUT: true; the input reads as it did. -/
def fnExactMeasureSpec : ChangeSpec := { name := "fnExactMeasure", fn := fun _ => fun
  | [d1, d2] => { results := [.lit (.bool true)], args := [d1, d2] }
  | _ => none }
def fnExactMeasureRow : OpenClaim := { program := "ytohenfogiegkman", sum := "e174c3289a3a33df3c20361fde15ecd3dd913b14ac9dd6b47fe691bc356bf859", func := "loop.example/g00147/laws.FnExactMeasure", spec := "fnExactMeasure", unfollowed := true, recurses := true, apart := false }
def FnExactMeasureSaid : Prop := fnExactMeasureRow.holds Try.pinned (OpenSpec.ofChange fnExactMeasureSpec)

/-- ITS FALSE NEIGHBOUR: 'it returns false'. Refute it at one input. -/
def fnExactMeasureWrong : ChangeSpec := { name := "fnExactMeasure", fn := fun _ => fun
  | [d1, d2] => { results := [.lit (.bool false)], args := [d1, d2] }
  | _ => none }
def FnExactMeasureWrongFalsely : Prop := fnExactMeasureRow.holds Try.pinned (OpenSpec.ofChange fnExactMeasureWrong)

/-- 'laws.FnExactWait': WHATEVER THE INPUT: true; the input reads as it did. -/
def fnExactWaitSpec : ChangeSpec := { name := "fnExactWait", fn := fun _ => fun
  | [d] => { results := [.lit (.bool true)], args := [d] }
  | _ => none }
def fnExactWaitRow : OpenClaim := { program := "ytohenfogiegkman", sum := "e174c3289a3a33df3c20361fde15ecd3dd913b14ac9dd6b47fe691bc356bf859", func := "loop.example/g00147/laws.FnExactWait", spec := "fnExactWait", unfollowed := true, recurses := true, apart := false }
def FnExactWaitSaid : Prop := fnExactWaitRow.holds Try.pinned (OpenSpec.ofChange fnExactWaitSpec)

/-- ITS FALSE NEIGHBOUR: 'it returns false'. Refute it at one input. -/
def fnExactWaitWrong : ChangeSpec := { name := "fnExactWait", fn := fun _ => fun
  | [d] => { results := [.lit (.bool false)], args := [d] }
  | _ => none }
def FnExactWaitWrongFalsely : Prop := fnExactWaitRow.holds Try.pinned (OpenSpec.ofChange fnExactWaitWrong)

/- THE SECOND FORM. 'bulk': how many values and letters a reading holds, each counted each time it is reached (what is shared counts as often as it is met; a slice's spare places count too). A statement '..UptoSaid' is the law's where the arguments, and the package variables that the reading takes, are together of bulk at most 1048576: NARROWER than '..Said'. Prove '..Said' where nothing that the law and all that it calls make is longer than what came in: it says more and counts as full. Else prove '..UptoSaid'. A law counts once. -/
mutual
def uptoBulk {H : Type} : DataW H → Nat
  | .lit (.string bytes) => bytes.length + 1
  | .lit _ => 1
  | .nil => 1
  | .ptr d => uptoBulk d + 1
  | .slice elems spare => uptoBulkAll elems + uptoBulkAll spare + 1
  | .agg parts => uptoBulkAll parts + 1
  | .iface _ d => uptoBulk d + 1
  | .map entries => uptoBulkEntries entries + 1
  | .held _ => 1
def uptoBulkAll {H : Type} : List (DataW H) → Nat
  | [] => 0
  | d :: r => uptoBulk d + uptoBulkAll r
def uptoBulkEntries {H : Type} : List (Lit × DataW H) → Nat
  | [] => 0
  | x :: r => uptoBulkEntry x + uptoBulkEntries r
def uptoBulkEntry {H : Type} : Lit × DataW H → Nat
  | (.string bytes, d) => bytes.length + uptoBulk d + 1
  | (_, d) => uptoBulk d + 1
 end
def uptoSmall : (H : Type) → List (DataW H) → Bool := fun _ ds => decide (uptoBulkAll ds ≤ 1048576)
def OpenSpec.upto (s : _root_.Go.ChangeSpec) : _root_.Go.OpenSpec := { _root_.Go.OpenSpec.ofChange s with cond := some uptoSmall }

/-- 'laws.FnExactServe', WHERE WHAT IT READS IS OF BULK AT MOST 1048576: true; the input reads as it did. -/
def fnExactServeUptoRow : OpenClaim := { program := "ytohenfogiegkman", sum := "e174c3289a3a33df3c20361fde15ecd3dd913b14ac9dd6b47fe691bc356bf859", func := "loop.example/g00147/laws.FnExactServe", spec := "fnExactServe", unfollowed := true, recurses := true, apart := false, narrowed := true }
def FnExactServeUptoSaid : Prop := fnExactServeUptoRow.holds Try.pinned (OpenSpec.upto fnExactServeSpec)

/-- 'laws.FnExactServeAll', WHERE WHAT IT READS IS OF BULK AT MOST 1048576: true; the input reads as it did. -/
def fnExactServeAllUptoRow : OpenClaim := { program := "ytohenfogiegkman", sum := "e174c3289a3a33df3c20361fde15ecd3dd913b14ac9dd6b47fe691bc356bf859", func := "loop.example/g00147/laws.FnExactServeAll", spec := "fnExactServeAll", unfollowed := true, recurses := true, apart := false, narrowed := true }
def FnExactServeAllUptoSaid : Prop := fnExactServeAllUptoRow.holds Try.pinned (OpenSpec.upto fnExactServeAllSpec)

/-- 'laws.FnExactWaiting', WHERE WHAT IT READS IS OF BULK AT MOST 1048576: true; the input reads as it did. -/
def fnExactWaitingUptoRow : OpenClaim := { program := "ytohenfogiegkman", sum := "e174c3289a3a33df3c20361fde15ecd3dd913b14ac9dd6b47fe691bc356bf859", func := "loop.example/g00147/laws.FnExactWaiting", spec := "fnExactWaiting", unfollowed := true, recurses := true, apart := false, narrowed := true }
def FnExactWaitingUptoSaid : Prop := fnExactWaitingUptoRow.holds Try.pinned (OpenSpec.upto fnExactWaitingSpec)

/-- 'laws.FnExactTripOk', WHERE WHAT IT READS IS OF BULK AT MOST 1048576: true; the input reads as it did. -/
def fnExactTripOkUptoRow : OpenClaim := { program := "ytohenfogiegkman", sum := "e174c3289a3a33df3c20361fde15ecd3dd913b14ac9dd6b47fe691bc356bf859", func := "loop.example/g00147/laws.FnExactTripOk", spec := "fnExactTripOk", apart := false, narrowed := true }
def FnExactTripOkUptoSaid : Prop := fnExactTripOkUptoRow.holds Try.pinned (OpenSpec.upto fnExactTripOkSpec)

/-- 'laws.FnExactMeasure', WHERE WHAT IT READS IS OF BULK AT MOST 1048576: true; the input reads as it did. -/
def fnExactMeasureUptoRow : OpenClaim := { program := "ytohenfogiegkman", sum := "e174c3289a3a33df3c20361fde15ecd3dd913b14ac9dd6b47fe691bc356bf859", func := "loop.example/g00147/laws.FnExactMeasure", spec := "fnExactMeasure", unfollowed := true, recurses := true, apart := false, narrowed := true }
def FnExactMeasureUptoSaid : Prop := fnExactMeasureUptoRow.holds Try.pinned (OpenSpec.upto fnExactMeasureSpec)

/-- 'laws.FnExactWait', WHERE WHAT IT READS IS OF BULK AT MOST 1048576: true; the input reads as it did. -/
def fnExactWaitUptoRow : OpenClaim := { program := "ytohenfogiegkman", sum := "e174c3289a3a33df3c20361fde15ecd3dd913b14ac9dd6b47fe691bc356bf859", func := "loop.example/g00147/laws.FnExactWait", spec := "fnExactWait", unfollowed := true, recurses := true, apart := false, narrowed := true }
def FnExactWaitUptoSaid : Prop := fnExactWaitUptoRow.holds Try.pinned (OpenSpec.upto fnExactWaitSpec)

end Rows
end Go.Proofs.Ytohenfogiegkman
