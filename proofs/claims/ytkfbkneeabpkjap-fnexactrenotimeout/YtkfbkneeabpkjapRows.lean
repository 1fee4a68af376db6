/-
  No cell of these rows narrows 'for every input' (looked for: loops, veiled, ifaces, maps, wideKeys, modest, calm, conditions, laid).
  DERIVED. THE GIVEN ROWS OF THIS SEAT. 3 by the template 'for every input the law returns true; each argument reads behind the call as it read before'; 0 by the template 'total and deterministic' (their statements: YtkfbkneeabpkjapTotals.lean).
  GIVEN WITH THE SEED: the statements are not yours to turn. If you find one false, say at which input.
  Laid BY PROGRAM, IN A SANDBOX (cutbox-rows.mjs): the forced cells as the released guide's own fill.sh prints them over the translation b539d45881dd3835… (all of the seat's roots in one cut). By AI agents, Wed Nov 11 2026. No macro, syntax, notation, axiom, sorry.
-/
import Derived.Test.YtkfbkneeabpkjapChecked
import GoSem.Claim
import GoSem.ClaimJoined
import GoSem.ClaimMapViews
import Derived.JoinedTies
import Derived.KernelRfl
namespace Go.Proofs.Ytkfbkneeabpkjap
/- THE CELL 'sum', in the pinned program and in every row, IS THE sha256 OF THE DUMP (.gsa) THAT YtkfbkneeabpkjapProg.lean LOADS. Nothing in Lean hashes anything: it is a label: what it is worth is what the hold of that sum in a sandbox is worth. -/
noncomputable def Try.pinned : Pinned := { name := "ytkfbkneeabpkjap", sum := "b539d45881dd383573a6b5c7b4d9860d298afcefd6f689cbdb0aef10e0effbfe", checked := Try.checked }
namespace Rows
def none {H : Type} : Left H := { results := [], args := [] }

/-- 'laws.FnExactRenoTimeout': WHATEVER THE INPUT: true; the input reads as it did. -/
def fnExactRenoTimeoutSpec : ChangeSpec := { name := "fnExactRenoTimeout", fn := fun _ => fun
  | [d] => { results := [.lit (.bool true)], args := [d] }
  | _ => none }
def fnExactRenoTimeoutRow : OpenClaim := { program := "ytkfbkneeabpkjap", sum := "b539d45881dd383573a6b5c7b4d9860d298afcefd6f689cbdb0aef10e0effbfe", func := "loop.example/g00147/laws.FnExactRenoTimeout", spec := "fnExactRenoTimeout", unfollowed := true, recurses := true, apart := false }
def FnExactRenoTimeoutSaid : Prop := fnExactRenoTimeoutRow.holds Try.pinned (OpenSpec.ofChange fnExactRenoTimeoutSpec)

/-- ITS FALSE NEIGHBOUR: 'it returns false'. Refute it at one input. -/
def fnExactRenoTimeoutWrong : ChangeSpec := { name := "fnExactRenoTimeout", fn := fun _ => fun
  | [d] => { results := [.lit (.bool false)], args := [d] }
  | _ => none }
def FnExactRenoTimeoutWrongFalsely : Prop := fnExactRenoTimeoutRow.holds Try.pinned (OpenSpec.ofChange fnExactRenoTimeoutWrong)

/-- 'laws.FnExactCubicAck': WHATEVER THE INPUT: true; the input reads as it did. -/
def fnExactCubicAckSpec : ChangeSpec := { name := "fnExactCubicAck", fn := fun _ => fun
  | [d1, d2, d3] => { results := [.lit (.bool true)], args := [d1, d2, d3] }
  | _ => none }
def fnExactCubicAckRow : OpenClaim := { program := "ytkfbkneeabpkjap", sum := "b539d45881dd383573a6b5c7b4d9860d298afcefd6f689cbdb0aef10e0effbfe", func := "loop.example/g00147/laws.FnExactCubicAck", spec := "fnExactCubicAck", apart := false }
def FnExactCubicAckSaid : Prop := fnExactCubicAckRow.holds Try.pinned (OpenSpec.ofChange fnExactCubicAckSpec)

/-- ITS FALSE NEIGHBOUR: 'it returns false'. Refute it at one input. -/
def fnExactCubicAckWrong : ChangeSpec := { name := "fnExactCubicAck", fn := fun _ => fun
  | [d1, d2, d3] => { results := [.lit (.bool false)], args := [d1, d2, d3] }
  | _ => none }
def FnExactCubicAckWrongFalsely : Prop := fnExactCubicAckRow.holds Try.pinned (OpenSpec.ofChange fnExactCubicAckWrong)

/-- 'laws.FnExactCubicLoss': WHATEVER THE INPUT: true; the input reads as it did. -/
def fnExactCubicLossSpec : ChangeSpec := { name := "fnExactCubicLoss", fn := fun _ => fun
  | [d] => { results := [.lit (.bool true)], args := [d] }
  | _ => none }
def fnExactCubicLossRow : OpenClaim := { program := "ytkfbkneeabpkjap", sum := "b539d45881dd383573a6b5c7b4d9860d298afcefd6f689cbdb0aef10e0effbfe", func := "loop.example/g00147/laws.FnExactCubicLoss", spec := "fnExactCubicLoss", apart := false }
def FnExactCubicLossSaid : Prop := fnExactCubicLossRow.holds Try.pinned (OpenSpec.ofChange fnExactCubicLossSpec)

/-- ITS FALSE NEIGHBOUR: 'it returns false'. Refute it at one input. -/
def fnExactCubicLossWrong : ChangeSpec := { name := "fnExactCubicLoss", fn := fun _ => fun
  | [d] => { results := [.lit (.bool false)], args := [d] }
  | _ => none }
def FnExactCubicLossWrongFalsely : Prop := fnExactCubicLossRow.holds Try.pinned (OpenSpec.ofChange fnExactCubicLossWrong)

/- THE SECOND FORM. 'bulk': how many values and letters a reading holds, each counted each time it is reached (what is shared counts as often as it is met; a slice's spare places count too). A statement '..UptoSaid' is the law's where the arguments, and the package variables that the reading takes, are together of bulk at most 1048576: NARROWER than '..Said'. Prove '..Said' where nothing that the law and all that it calls make is longer than what came in: it says more and counts as full. Else prove '..UptoSaid'. A law counts once. -/
mutual
def uptoBulk {H : Type} : DataW H → Nat
  | .lit (.string bytes) => bytes.length + 1
  | .lit _ => 1
  | .nil => 1
  | .ptr d => uptoBulk d + 1
  | .slice elems spare => uptoBulkAll elems + uptoBulkAll spare + 1
  | .agg parts => uptoBulkAll parts + 1
  | .iface _ d => uptoBulk d + 1
  | .map entries => uptoBulkEntries entries + 1
  | .held _ => 1
def uptoBulkAll {H : Type} : List (DataW H) → Nat
  | [] => 0
  | d :: r => uptoBulk d + uptoBulkAll r
def uptoBulkEntries {H : Type} : List (Lit × DataW H) → Nat
  | [] => 0
  | x :: r => uptoBulkEntry x + uptoBulkEntries r
def uptoBulkEntry {H : Type} : Lit × DataW H → Nat
  | (.string bytes, d) => bytes.length + uptoBulk d + 1
  | (_, d) => uptoBulk d + 1
 end
def uptoSmall : (H : Type) → List (DataW H) → Bool := fun _ ds => decide (uptoBulkAll ds ≤ 1048576)
def OpenSpec.upto (s : _root_.Go.ChangeSpec) : _root_.Go.OpenSpec := { _root_.Go.OpenSpec.ofChange s with cond := some uptoSmall }

/-- 'laws.FnExactRenoTimeout', WHERE WHAT IT READS IS OF BULK AT MOST 1048576: true; the input reads as it did. -/
def fnExactRenoTimeoutUptoRow : OpenClaim := { program := "ytkfbkneeabpkjap", sum := "b539d45881dd383573a6b5c7b4d9860d298afcefd6f689cbdb0aef10e0effbfe", func := "loop.example/g00147/laws.FnExactRenoTimeout", spec := "fnExactRenoTimeout", unfollowed := true, recurses := true, apart := false, narrowed := true }
def FnExactRenoTimeoutUptoSaid : Prop := fnExactRenoTimeoutUptoRow.holds Try.pinned (OpenSpec.upto fnExactRenoTimeoutSpec)

/-- 'laws.FnExactCubicAck', WHERE WHAT IT READS IS OF BULK AT MOST 1048576: true; the input reads as it did. -/
def fnExactCubicAckUptoRow : OpenClaim := { program := "ytkfbkneeabpkjap", sum := "b539d45881dd383573a6b5c7b4d9860d298afcefd6f689cbdb0aef10e0effbfe", func := "loop.example/g00147/laws.FnExactCubicAck", spec := "fnExactCubicAck", apart := false, narrowed := true }
def FnExactCubicAckUptoSaid : Prop := fnExactCubicAckUptoRow.holds Try.pinned (OpenSpec.upto fnExactCubicAckSpec)

/-- 'laws.FnExactCubicLoss', WHERE WHAT IT READS IS OF BULK AT MOST 1048576: true; the input reads as it did. -/
def fnExactCubicLossUptoRow : OpenClaim := { program := "ytkfbkneeabpkjap", sum := "b539d45881dd383573a6b5c7b4d9860d298afcefd6f689cbdb0aef10e0effbfe", func := "loop.example/g00147/laws.FnExactCubicLoss", spec := "fnExactCubicLoss", apart := false, narrowed := true }
def FnExactCubicLossUptoSaid : Prop := fnExactCubicLossUptoRow.holds Try.pinned (OpenSpec.upto fnExactCubicLossSpec)

end Rows
end Go.Proofs.Ytkfbkneeabpkjap
