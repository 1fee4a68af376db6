/- The draw of a bucket. -/
import Derived.Test.YtdgefdjgpneanadDraw4
import Derived.Deep.RegionHeld3
namespace Go.Proofs.Ytdgefdjgpneanad
open Go.ChangeShapes Go.WideShapes Go.ChangeAt Go.RowKit
set_option maxRecDepth 100000
set_option linter.unusedVariables false

theorem bst_new {B : Nat} {a0 : Option Addr} {len cap b : Nat} {w wr : World} {r u l t : Int} {T : TypeId} (k : Cur B a0 len cap b wr) (o : Only b w wr) (f : Four wr w.heap.size 0 0 0 0) (z : w.heap.size < wr.heap.size) (hb : b < w.heap.size) :
    BSt B a0 len cap b w (wr.alloc (.cells #[.int .i64 r, .int .i64 u, .int .i64 l, .int .i64 t] T)) wr.heap.size r u l t :=
  ⟨k.alloc _, o.alloc _, hb, z, by simp, f.only (Only.of_below (b := b) (new_below _ _)) z (by omega), ⟨by go_simp, by go_simp, by go_simp, by go_simp, fun i => by go_simp⟩⟩
theorem full_level {x y z : Int} (hf : fullOk x y z = true) (hy : 0 ≤ y ∧ y < 20000) : 0 ≤ (fullOf x y z).2.2.1 ∧ (fullOf x y z).2.2.1 ≤ 1000000000000000000 := by
  unfold fullOf
  rw [if_pos hf]
  show 0 ≤ 1000000000 * y ∧ 1000000000 * y ≤ 1000000000000000000
  omega
def BPost (B : Nat) (a0 : Option Addr) (len cap b : Nat) (w : World) (e : Ending) (w' : World) : Prop := ∃ r u l t, e = .returned (.agg #[.int .i64 r, .int .i64 u, .int .i64 l, .int .i64 t]) ∧ Cur B a0 len cap b w' ∧ Only b w w'
theorem tabR_in (X : Nat) (h : X < 3) : ∃ y : Int, (#[Value.int IntKind.i64 (-1), Value.int IntKind.i64 1000000000000, Value.int IntKind.i64 1000000000001] : Array Value)[X]? = some (.int .i64 y) := by
  match X, h with
  | 0, _ => exact ⟨_, rfl⟩
  | 1, _ => exact ⟨_, rfl⟩
  | 2, _ => exact ⟨_, rfl⟩
theorem tabU_in (X : Nat) (h : X < 4) : ∃ y : Int, (#[Value.int IntKind.i64 (-1), Value.int IntKind.i64 1000000000, Value.int IntKind.i64 1000000001, Value.int IntKind.i64 (-4611686018427387904)] : Array Value)[X]? = some (.int .i64 y) := by
  match X, h with
  | 0, _ => exact ⟨_, rfl⟩
  | 1, _ => exact ⟨_, rfl⟩
  | 2, _ => exact ⟨_, rfl⟩
  | 3, _ => exact ⟨_, rfl⟩
theorem tabL_in (z : Int) (X : Nat) (h : X < 3) : ∃ y : Int, (#[Value.int IntKind.i64 (-1), Value.int IntKind.i64 z, Value.int IntKind.i64 4611686018427387904] : Array Value)[X]? = some (.int .i64 y) := by
  match X, h with
  | 0, _ => exact ⟨_, rfl⟩
  | 1, _ => exact ⟨_, rfl⟩
  | 2, _ => exact ⟨_, rfl⟩
theorem tabT_in (X : Nat) (h : X < 3) : ∃ y : Int, (#[Value.int IntKind.i64 (-1), Value.int IntKind.i64 1000000000000000, Value.int IntKind.i64 1000000000000001] : Array Value)[X]? = some (.int .i64 y) := by
  match X, h with
  | 0, _ => exact ⟨_, rfl⟩
  | 1, _ => exact ⟨_, rfl⟩
  | 2, _ => exact ⟨_, rfl⟩
end Go.Proofs.Ytdgefdjgpneanad
