/-
  No cell of these rows narrows 'for every input' (looked for: loops, veiled, ifaces, maps, wideKeys, modest, calm, conditions, laid).
  DERIVED. THE GIVEN ROWS OF THIS SEAT. 6 by the template 'for every input the law returns true; each argument reads behind the call as it read before'; 0 by the template 'total and deterministic' (their statements: YtdgefdjgpneanaoTotals.lean).
  GIVEN WITH THE SEED: the statements are not yours to turn. If you find one false, say at which input.
  Laid BY PROGRAM, IN A SANDBOX (cutbox-rows.mjs): the forced cells as the released guide's own fill.sh prints them over the translation 276f103d8631faa0… (all of the seat's roots in one cut). By AI agents, Wed Nov 11 2026. No macro, syntax, notation, axiom, sorry.
-/
import Derived.Test.YtdgefdjgpneanaoChecked
import GoSem.Claim
import GoSem.ClaimJoined
import GoSem.ClaimMapViews
import Derived.JoinedTies
import Derived.KernelRfl
namespace Go.Proofs.Ytdgefdjgpneanao
/- THE CELL 'sum', in the pinned program and in every row, IS THE sha256 OF THE DUMP (.gsa) THAT YtdgefdjgpneanaoProg.lean LOADS. Nothing in Lean hashes anything: it is a label: what it is worth is what the hold of that sum in a sandbox is worth. -/
noncomputable def Try.pinned : Pinned := { name := "ytdgefdjgpneanao", sum := "276f103d8631faa06f4d32032d7aea7efd251259192022ab206878cea422ba69", checked := Try.checked }
namespace Rows
def none {H : Type} : Left H := { results := [], args := [] }

/-- 'laws.FnExactExpire': WHATEVER THE INPUT: true; the input reads as it did. -/
def fnExactExpireSpec : ChangeSpec := { name := "fnExactExpire", fn := fun _ => fun
  | [d] => { results := [.lit (.bool true)], args := [d] }
  | _ => none }
def fnExactExpireRow : OpenClaim := { program := "ytdgefdjgpneanao", sum := "276f103d8631faa06f4d32032d7aea7efd251259192022ab206878cea422ba69", func := "loop.example/g00147/laws.FnExactExpire", spec := "fnExactExpire", apart := false }
def FnExactExpireSaid : Prop := fnExactExpireRow.holds Try.pinned (OpenSpec.ofChange fnExactExpireSpec)

/-- ITS FALSE NEIGHBOUR: 'it returns false'. Refute it at one input. -/
def fnExactExpireWrong : ChangeSpec := { name := "fnExactExpire", fn := fun _ => fun
  | [d] => { results := [.lit (.bool false)], args := [d] }
  | _ => none }
def FnExactExpireWrongFalsely : Prop := fnExactExpireRow.holds Try.pinned (OpenSpec.ofChange fnExactExpireWrong)

/-- 'laws.FnExactCcOk': WHATEVER THE INPUT: true; the input reads as it did. -/
def fnExactCcOkSpec : ChangeSpec := { name := "fnExactCcOk", fn := fun _ => fun
  | [d] => { results := [.lit (.bool true)], args := [d] }
  | _ => none }
def fnExactCcOkRow : OpenClaim := { program := "ytdgefdjgpneanao", sum := "276f103d8631faa06f4d32032d7aea7efd251259192022ab206878cea422ba69", func := "loop.example/g00147/laws.FnExactCcOk", spec := "fnExactCcOk", apart := false }
def FnExactCcOkSaid : Prop := fnExactCcOkRow.holds Try.pinned (OpenSpec.ofChange fnExactCcOkSpec)

/-- ITS FALSE NEIGHBOUR: 'it returns false'. Refute it at one input. -/
def fnExactCcOkWrong : ChangeSpec := { name := "fnExactCcOk", fn := fun _ => fun
  | [d] => { results := [.lit (.bool false)], args := [d] }
  | _ => none }
def FnExactCcOkWrongFalsely : Prop := fnExactCcOkRow.holds Try.pinned (OpenSpec.ofChange fnExactCcOkWrong)

/-- 'laws.FnExactNewCc': WHATEVER THE INPUT: true; the input reads as it did. -/
def fnExactNewCcSpec : ChangeSpec := { name := "fnExactNewCc", fn := fun _ => fun
  | [d] => { results := [.lit (.bool true)], args := [d] }
  | _ => none }
def fnExactNewCcRow : OpenClaim := { program := "ytdgefdjgpneanao", sum := "276f103d8631faa06f4d32032d7aea7efd251259192022ab206878cea422ba69", func := "loop.example/g00147/laws.FnExactNewCc", spec := "fnExactNewCc", apart := false }
def FnExactNewCcSaid : Prop := fnExactNewCcRow.holds Try.pinned (OpenSpec.ofChange fnExactNewCcSpec)

/-- ITS FALSE NEIGHBOUR: 'it returns false'. Refute it at one input. -/
def fnExactNewCcWrong : ChangeSpec := { name := "fnExactNewCc", fn := fun _ => fun
  | [d] => { results := [.lit (.bool false)], args := [d] }
  | _ => none }
def FnExactNewCcWrongFalsely : Prop := fnExactNewCcRow.holds Try.pinned (OpenSpec.ofChange fnExactNewCcWrong)

/-- 'laws.FnExactSent': WHATEVER THE INPUT: true; the input reads as it did. -/
def fnExactSentSpec : ChangeSpec := { name := "fnExactSent", fn := fun _ => fun
  | [d1, d2] => { results := [.lit (.bool true)], args := [d1, d2] }
  | _ => none }
def fnExactSentRow : OpenClaim := { program := "ytdgefdjgpneanao", sum := "276f103d8631faa06f4d32032d7aea7efd251259192022ab206878cea422ba69", func := "loop.example/g00147/laws.FnExactSent", spec := "fnExactSent", apart := false }
def FnExactSentSaid : Prop := fnExactSentRow.holds Try.pinned (OpenSpec.ofChange fnExactSentSpec)

/-- ITS FALSE NEIGHBOUR: 'it returns false'. Refute it at one input. -/
def fnExactSentWrong : ChangeSpec := { name := "fnExactSent", fn := fun _ => fun
  | [d1, d2] => { results := [.lit (.bool false)], args := [d1, d2] }
  | _ => none }
def FnExactSentWrongFalsely : Prop := fnExactSentRow.holds Try.pinned (OpenSpec.ofChange fnExactSentWrong)

/-- 'laws.FnExactRenoAck': WHATEVER THE INPUT: true; the input reads as it did. -/
def fnExactRenoAckSpec : ChangeSpec := { name := "fnExactRenoAck", fn := fun _ => fun
  | [d1, d2] => { results := [.lit (.bool true)], args := [d1, d2] }
  | _ => none }
def fnExactRenoAckRow : OpenClaim := { program := "ytdgefdjgpneanao", sum := "276f103d8631faa06f4d32032d7aea7efd251259192022ab206878cea422ba69", func := "loop.example/g00147/laws.FnExactRenoAck", spec := "fnExactRenoAck", unfollowed := true, recurses := true, apart := false }
def FnExactRenoAckSaid : Prop := fnExactRenoAckRow.holds Try.pinned (OpenSpec.ofChange fnExactRenoAckSpec)

/-- ITS FALSE NEIGHBOUR: 'it returns false'. Refute it at one input. -/
def fnExactRenoAckWrong : ChangeSpec := { name := "fnExactRenoAck", fn := fun _ => fun
  | [d1, d2] => { results := [.lit (.bool false)], args := [d1, d2] }
  | _ => none }
def FnExactRenoAckWrongFalsely : Prop := fnExactRenoAckRow.holds Try.pinned (OpenSpec.ofChange fnExactRenoAckWrong)

/-- 'laws.FnExactRenoLoss': WHATEVER THE INPUT: true; the input reads as it did. -/
def fnExactRenoLossSpec : ChangeSpec := { name := "fnExactRenoLoss", fn := fun _ => fun
  | [d] => { results := [.lit (.bool true)], args := [d] }
  | _ => none }
def fnExactRenoLossRow : OpenClaim := { program := "ytdgefdjgpneanao", sum := "276f103d8631faa06f4d32032d7aea7efd251259192022ab206878cea422ba69", func := "loop.example/g00147/laws.FnExactRenoLoss", spec := "fnExactRenoLoss", unfollowed := true, recurses := true, apart := false }
def FnExactRenoLossSaid : Prop := fnExactRenoLossRow.holds Try.pinned (OpenSpec.ofChange fnExactRenoLossSpec)

/-- ITS FALSE NEIGHBOUR: 'it returns false'. Refute it at one input. -/
def fnExactRenoLossWrong : ChangeSpec := { name := "fnExactRenoLoss", fn := fun _ => fun
  | [d] => { results := [.lit (.bool false)], args := [d] }
  | _ => none }
def FnExactRenoLossWrongFalsely : Prop := fnExactRenoLossRow.holds Try.pinned (OpenSpec.ofChange fnExactRenoLossWrong)

/- THE SECOND FORM. 'bulk': how many values and letters a reading holds, each counted each time it is reached (what is shared counts as often as it is met; a slice's spare places count too). A statement '..UptoSaid' is the law's where the arguments, and the package variables that the reading takes, are together of bulk at most 1048576: NARROWER than '..Said'. Prove '..Said' where nothing that the law and all that it calls make is longer than what came in: it says more and counts as full. Else prove '..UptoSaid'. A law counts once. -/
mutual
def uptoBulk {H : Type} : DataW H → Nat
  | .lit (.string bytes) => bytes.length + 1
  | .lit _ => 1
  | .nil => 1
  | .ptr d => uptoBulk d + 1
  | .slice elems spare => uptoBulkAll elems + uptoBulkAll spare + 1
  | .agg parts => uptoBulkAll parts + 1
  | .iface _ d => uptoBulk d + 1
  | .map entries => uptoBulkEntries entries + 1
  | .held _ => 1
def uptoBulkAll {H : Type} : List (DataW H) → Nat
  | [] => 0
  | d :: r => uptoBulk d + uptoBulkAll r
def uptoBulkEntries {H : Type} : List (Lit × DataW H) → Nat
  | [] => 0
  | x :: r => uptoBulkEntry x + uptoBulkEntries r
def uptoBulkEntry {H : Type} : Lit × DataW H → Nat
  | (.string bytes, d) => bytes.length + uptoBulk d + 1
  | (_, d) => uptoBulk d + 1
 end
def uptoSmall : (H : Type) → List (DataW H) → Bool := fun _ ds => decide (uptoBulkAll ds ≤ 1048576)
def OpenSpec.upto (s : _root_.Go.ChangeSpec) : _root_.Go.OpenSpec := { _root_.Go.OpenSpec.ofChange s with cond := some uptoSmall }

/-- 'laws.FnExactExpire', WHERE WHAT IT READS IS OF BULK AT MOST 1048576: true; the input reads as it did. -/
def fnExactExpireUptoRow : OpenClaim := { program := "ytdgefdjgpneanao", sum := "276f103d8631faa06f4d32032d7aea7efd251259192022ab206878cea422ba69", func := "loop.example/g00147/laws.FnExactExpire", spec := "fnExactExpire", apart := false, narrowed := true }
def FnExactExpireUptoSaid : Prop := fnExactExpireUptoRow.holds Try.pinned (OpenSpec.upto fnExactExpireSpec)

/-- 'laws.FnExactCcOk', WHERE WHAT IT READS IS OF BULK AT MOST 1048576: true; the input reads as it did. -/
def fnExactCcOkUptoRow : OpenClaim := { program := "ytdgefdjgpneanao", sum := "276f103d8631faa06f4d32032d7aea7efd251259192022ab206878cea422ba69", func := "loop.example/g00147/laws.FnExactCcOk", spec := "fnExactCcOk", apart := false, narrowed := true }
def FnExactCcOkUptoSaid : Prop := fnExactCcOkUptoRow.holds Try.pinned (OpenSpec.upto fnExactCcOkSpec)

/-- 'laws.FnExactNewCc', WHERE WHAT IT READS IS OF BULK AT MOST 1048576: true; the input reads as it did. -/
def fnExactNewCcUptoRow : OpenClaim := { program := "ytdgefdjgpneanao", sum := "276f103d8631faa06f4d32032d7aea7efd251259192022ab206878cea422ba69", func := "loop.example/g00147/laws.FnExactNewCc", spec := "fnExactNewCc", apart := false, narrowed := true }
def FnExactNewCcUptoSaid : Prop := fnExactNewCcUptoRow.holds Try.pinned (OpenSpec.upto fnExactNewCcSpec)

/-- 'laws.FnExactSent', WHERE WHAT IT READS IS OF BULK AT MOST 1048576: true; the input reads as it did. -/
def fnExactSentUptoRow : OpenClaim := { program := "ytdgefdjgpneanao", sum := "276f103d8631faa06f4d32032d7aea7efd251259192022ab206878cea422ba69", func := "loop.example/g00147/laws.FnExactSent", spec := "fnExactSent", apart := false, narrowed := true }
def FnExactSentUptoSaid : Prop := fnExactSentUptoRow.holds Try.pinned (OpenSpec.upto fnExactSentSpec)

/-- 'laws.FnExactRenoAck', WHERE WHAT IT READS IS OF BULK AT MOST 1048576: true; the input reads as it did. -/
def fnExactRenoAckUptoRow : OpenClaim := { program := "ytdgefdjgpneanao", sum := "276f103d8631faa06f4d32032d7aea7efd251259192022ab206878cea422ba69", func := "loop.example/g00147/laws.FnExactRenoAck", spec := "fnExactRenoAck", unfollowed := true, recurses := true, apart := false, narrowed := true }
def FnExactRenoAckUptoSaid : Prop := fnExactRenoAckUptoRow.holds Try.pinned (OpenSpec.upto fnExactRenoAckSpec)

/-- 'laws.FnExactRenoLoss', WHERE WHAT IT READS IS OF BULK AT MOST 1048576: true; the input reads as it did. -/
def fnExactRenoLossUptoRow : OpenClaim := { program := "ytdgefdjgpneanao", sum := "276f103d8631faa06f4d32032d7aea7efd251259192022ab206878cea422ba69", func := "loop.example/g00147/laws.FnExactRenoLoss", spec := "fnExactRenoLoss", unfollowed := true, recurses := true, apart := false, narrowed := true }
def FnExactRenoLossUptoSaid : Prop := fnExactRenoLossUptoRow.holds Try.pinned (OpenSpec.upto fnExactRenoLossSpec)

end Rows
end Go.Proofs.Ytdgefdjgpneanao
