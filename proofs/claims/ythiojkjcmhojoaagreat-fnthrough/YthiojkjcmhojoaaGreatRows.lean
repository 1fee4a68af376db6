/-
  No cell of these rows narrows 'for every input' (looked for: loops, veiled, ifaces, maps, wideKeys, modest, calm, conditions, laid).
  DERIVED. THE GIVEN ROWS OF THIS SEAT. 5 by the template 'for every input the law returns true; each argument reads behind the call as it read before'; 0 by the template 'total and deterministic' (their statements: YthiojkjcmhojoaaGreatTotals.lean).
  GIVEN WITH THE SEED: the statements are not yours to turn. If you find one false, say at which input.
  Laid BY PROGRAM, IN A SANDBOX (cutbox-rows.mjs): the forced cells as the released guide's own fill.sh prints them over the translation dcd4a79532f49a26… (all of the seat's roots in one cut). By AI agents, Wed Nov 11 2026. No macro, syntax, notation, axiom, sorry.
-/
import Derived.Test.YthiojkjcmhojoaaGreatChecked
import GoSem.Claim
import GoSem.ClaimJoined
import GoSem.ClaimMapViews
import Derived.JoinedTies
import Derived.KernelRfl
namespace Go.Proofs.YthiojkjcmhojoaaGreat
/- THE CELL 'sum', in the pinned program and in every row, IS THE sha256 OF THE DUMP (.gsa) THAT YthiojkjcmhojoaaGreatProg.lean LOADS. Nothing in Lean hashes anything: it is a label: what it is worth is what the hold of that sum in a sandbox is worth. -/
noncomputable def Tryz.pinned : Pinned := { name := "ythiojkjcmhojoaagreat", sum := "dcd4a79532f49a26dc91d97b3667e43f7306031ede1fbf4092e85b8960c302b6", checked := Tryz.checked }
namespace Rows
def none {H : Type} : Left H := { results := [], args := [] }

/-- 'laws.FnOpened': WHATEVER THE INPUT: true; the input reads as it did. -/
def fnOpenedSpec : ChangeSpec := { name := "fnOpened", fn := fun _ => fun
  | [d] => { results := [.lit (.bool true)], args := [d] }
  | _ => none }
def fnOpenedRow : OpenClaim := { program := "ythiojkjcmhojoaagreat", sum := "dcd4a79532f49a26dc91d97b3667e43f7306031ede1fbf4092e85b8960c302b6", func := "loop.example/g00147/laws.FnOpened", spec := "fnOpened", inPlace := ["slices.overlaps[loop.example/g00147/impl.Conn]"], unfollowed := true, recurses := true, apart := false }
def FnOpenedSaid : Prop := fnOpenedRow.holds Tryz.pinned (OpenSpec.ofChange fnOpenedSpec)

/-- ITS FALSE NEIGHBOUR: 'it returns false'. Refute it at one input. -/
def fnOpenedWrong : ChangeSpec := { name := "fnOpened", fn := fun _ => fun
  | [d] => { results := [.lit (.bool false)], args := [d] }
  | _ => none }
def FnOpenedWrongFalsely : Prop := fnOpenedRow.holds Tryz.pinned (OpenSpec.ofChange fnOpenedWrong)

/-- 'laws.FnSubmitted': WHATEVER THE INPUT: true; the input reads as it did. -/
def fnSubmittedSpec : ChangeSpec := { name := "fnSubmitted", fn := fun _ => fun
  | [d] => { results := [.lit (.bool true)], args := [d] }
  | _ => none }
def fnSubmittedRow : OpenClaim := { program := "ythiojkjcmhojoaagreat", sum := "dcd4a79532f49a26dc91d97b3667e43f7306031ede1fbf4092e85b8960c302b6", func := "loop.example/g00147/laws.FnSubmitted", spec := "fnSubmitted", unfollowed := true, recurses := true, apart := false }
def FnSubmittedSaid : Prop := fnSubmittedRow.holds Tryz.pinned (OpenSpec.ofChange fnSubmittedSpec)

/-- ITS FALSE NEIGHBOUR: 'it returns false'. Refute it at one input. -/
def fnSubmittedWrong : ChangeSpec := { name := "fnSubmitted", fn := fun _ => fun
  | [d] => { results := [.lit (.bool false)], args := [d] }
  | _ => none }
def FnSubmittedWrongFalsely : Prop := fnSubmittedRow.holds Tryz.pinned (OpenSpec.ofChange fnSubmittedWrong)

/-- 'laws.FnThrough': WHATEVER THE INPUT: true; the input reads as it did. -/
def fnThroughSpec : ChangeSpec := { name := "fnThrough", fn := fun _ => fun
  | [d] => { results := [.lit (.bool true)], args := [d] }
  | _ => none }
def fnThroughRow : OpenClaim := { program := "ythiojkjcmhojoaagreat", sum := "dcd4a79532f49a26dc91d97b3667e43f7306031ede1fbf4092e85b8960c302b6", func := "loop.example/g00147/laws.FnThrough", spec := "fnThrough", unfollowed := true, recurses := true, apart := false }
def FnThroughSaid : Prop := fnThroughRow.holds Tryz.pinned (OpenSpec.ofChange fnThroughSpec)

/-- ITS FALSE NEIGHBOUR: 'it returns false'. Refute it at one input. -/
def fnThroughWrong : ChangeSpec := { name := "fnThrough", fn := fun _ => fun
  | [d] => { results := [.lit (.bool false)], args := [d] }
  | _ => none }
def FnThroughWrongFalsely : Prop := fnThroughRow.holds Tryz.pinned (OpenSpec.ofChange fnThroughWrong)

/-- 'laws.FnSwitched': WHATEVER THE INPUT: true; the input reads as it did. -/
def fnSwitchedSpec : ChangeSpec := { name := "fnSwitched", fn := fun _ => fun
  | [d] => { results := [.lit (.bool true)], args := [d] }
  | _ => none }
def fnSwitchedRow : OpenClaim := { program := "ythiojkjcmhojoaagreat", sum := "dcd4a79532f49a26dc91d97b3667e43f7306031ede1fbf4092e85b8960c302b6", func := "loop.example/g00147/laws.FnSwitched", spec := "fnSwitched", unfollowed := true, recurses := true, apart := false }
def FnSwitchedSaid : Prop := fnSwitchedRow.holds Tryz.pinned (OpenSpec.ofChange fnSwitchedSpec)

/-- ITS FALSE NEIGHBOUR: 'it returns false'. Refute it at one input. -/
def fnSwitchedWrong : ChangeSpec := { name := "fnSwitched", fn := fun _ => fun
  | [d] => { results := [.lit (.bool false)], args := [d] }
  | _ => none }
def FnSwitchedWrongFalsely : Prop := fnSwitchedRow.holds Tryz.pinned (OpenSpec.ofChange fnSwitchedWrong)

/-- 'laws.FnForwarded': WHATEVER THE INPUT: true; the input reads as it did. -/
def fnForwardedSpec : ChangeSpec := { name := "fnForwarded", fn := fun _ => fun
  | [d] => { results := [.lit (.bool true)], args := [d] }
  | _ => none }
def fnForwardedRow : OpenClaim := { program := "ythiojkjcmhojoaagreat", sum := "dcd4a79532f49a26dc91d97b3667e43f7306031ede1fbf4092e85b8960c302b6", func := "loop.example/g00147/laws.FnForwarded", spec := "fnForwarded", unfollowed := true, recurses := true, apart := false }
def FnForwardedSaid : Prop := fnForwardedRow.holds Tryz.pinned (OpenSpec.ofChange fnForwardedSpec)

/-- ITS FALSE NEIGHBOUR: 'it returns false'. Refute it at one input. -/
def fnForwardedWrong : ChangeSpec := { name := "fnForwarded", fn := fun _ => fun
  | [d] => { results := [.lit (.bool false)], args := [d] }
  | _ => none }
def FnForwardedWrongFalsely : Prop := fnForwardedRow.holds Tryz.pinned (OpenSpec.ofChange fnForwardedWrong)

/- THE SECOND FORM. 'bulk': how many values and letters a reading holds, each counted each time it is reached (what is shared counts as often as it is met; a slice's spare places count too). A statement '..UptoSaid' is the law's where the arguments, and the package variables that the reading takes, are together of bulk at most 1048576: NARROWER than '..Said'. Prove '..Said' where nothing that the law and all that it calls make is longer than what came in: it says more and counts as full. Else prove '..UptoSaid'. A law counts once. -/
mutual
def uptoBulk {H : Type} : DataW H → Nat
  | .lit (.string bytes) => bytes.length + 1
  | .lit _ => 1
  | .nil => 1
  | .ptr d => uptoBulk d + 1
  | .slice elems spare => uptoBulkAll elems + uptoBulkAll spare + 1
  | .agg parts => uptoBulkAll parts + 1
  | .iface _ d => uptoBulk d + 1
  | .map entries => uptoBulkEntries entries + 1
  | .held _ => 1
def uptoBulkAll {H : Type} : List (DataW H) → Nat
  | [] => 0
  | d :: r => uptoBulk d + uptoBulkAll r
def uptoBulkEntries {H : Type} : List (Lit × DataW H) → Nat
  | [] => 0
  | x :: r => uptoBulkEntry x + uptoBulkEntries r
def uptoBulkEntry {H : Type} : Lit × DataW H → Nat
  | (.string bytes, d) => bytes.length + uptoBulk d + 1
  | (_, d) => uptoBulk d + 1
 end
def uptoSmall : (H : Type) → List (DataW H) → Bool := fun _ ds => decide (uptoBulkAll ds ≤ 1048576)
def OpenSpec.upto (s : _root_.Go.ChangeSpec) : _root_.Go.OpenSpec := { _root_.Go.OpenSpec.ofChange s with cond := some uptoSmall }

/-- 'laws.FnOpened', WHERE WHAT IT READS IS OF BULK AT MOST 1048576: true; the input reads as it did. -/
def fnOpenedUptoRow : OpenClaim := { program := "ythiojkjcmhojoaagreat", sum := "dcd4a79532f49a26dc91d97b3667e43f7306031ede1fbf4092e85b8960c302b6", func := "loop.example/g00147/laws.FnOpened", spec := "fnOpened", inPlace := ["slices.overlaps[loop.example/g00147/impl.Conn]"], unfollowed := true, recurses := true, apart := false, narrowed := true }
def FnOpenedUptoSaid : Prop := fnOpenedUptoRow.holds Tryz.pinned (OpenSpec.upto fnOpenedSpec)

/-- 'laws.FnSubmitted', WHERE WHAT IT READS IS OF BULK AT MOST 1048576: true; the input reads as it did. -/
def fnSubmittedUptoRow : OpenClaim := { program := "ythiojkjcmhojoaagreat", sum := "dcd4a79532f49a26dc91d97b3667e43f7306031ede1fbf4092e85b8960c302b6", func := "loop.example/g00147/laws.FnSubmitted", spec := "fnSubmitted", unfollowed := true, recurses := true, apart := false, narrowed := true }
def FnSubmittedUptoSaid : Prop := fnSubmittedUptoRow.holds Tryz.pinned (OpenSpec.upto fnSubmittedSpec)

/-- 'laws.FnThrough', WHERE WHAT IT READS IS OF BULK AT MOST 1048576: true; the input reads as it did. -/
def fnThroughUptoRow : OpenClaim := { program := "ythiojkjcmhojoaagreat", sum := "dcd4a79532f49a26dc91d97b3667e43f7306031ede1fbf4092e85b8960c302b6", func := "loop.example/g00147/laws.FnThrough", spec := "fnThrough", unfollowed := true, recurses := true, apart := false, narrowed := true }
def FnThroughUptoSaid : Prop := fnThroughUptoRow.holds Tryz.pinned (OpenSpec.upto fnThroughSpec)

/-- 'laws.FnSwitched', WHERE WHAT IT READS IS OF BULK AT MOST 1048576: true; the input reads as it did. -/
def fnSwitchedUptoRow : OpenClaim := { program := "ythiojkjcmhojoaagreat", sum := "dcd4a79532f49a26dc91d97b3667e43f7306031ede1fbf4092e85b8960c302b6", func := "loop.example/g00147/laws.FnSwitched", spec := "fnSwitched", unfollowed := true, recurses := true, apart := false, narrowed := true }
def FnSwitchedUptoSaid : Prop := fnSwitchedUptoRow.holds Tryz.pinned (OpenSpec.upto fnSwitchedSpec)

/-- 'laws.FnForwarded', WHERE WHAT IT READS IS OF BULK AT MOST 1048576: true; the input reads as it did. -/
def fnForwardedUptoRow : OpenClaim := { program := "ythiojkjcmhojoaagreat", sum := "dcd4a79532f49a26dc91d97b3667e43f7306031ede1fbf4092e85b8960c302b6", func := "loop.example/g00147/laws.FnForwarded", spec := "fnForwarded", unfollowed := true, recurses := true, apart := false, narrowed := true }
def FnForwardedUptoSaid : Prop := fnForwardedUptoRow.holds Tryz.pinned (OpenSpec.upto fnForwardedSpec)

end Rows
end Go.Proofs.YthiojkjcmhojoaaGreat
