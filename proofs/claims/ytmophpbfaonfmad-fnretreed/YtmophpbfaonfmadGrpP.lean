/- Lemmas on the way, of several texts: Draw4b, Draw4c. -/
import Derived.Test.YtmophpbfaonfmadDraw4
import Derived.Deep.RegionHeld3
namespace Go.Proofs.Ytmophpbfaonfmad
open Go.ChangeShapes Go.WideShapes Go.ChangeAt Go.RowKit
set_option maxRecDepth 100000
set_option linter.unusedVariables false

theorem bst_new {B : Nat} {a0 : Option Addr} {len cap b : Nat} {w wr : World} {r u l t : Int} {T : TypeId} (k : Cur B a0 len cap b wr) (o : Only b w wr) (f : Four wr w.heap.size 0 0 0 0) (z : w.heap.size < wr.heap.size) (hb : b < w.heap.size) :
    BSt B a0 len cap b w (wr.alloc (.cells #[.int .i64 r, .int .i64 u, .int .i64 l, .int .i64 t] T)) wr.heap.size r u l t :=
  ⟨k.alloc _, o.alloc _, hb, z, by simp, f.only (Only.of_below (b := b) (new_below _ _)) z (by omega), ⟨by go_simp, by go_simp, by go_simp, by go_simp, fun i => by go_simp⟩⟩
theorem full_level {x y z : Int} (hf : fullOk x y z = true) (hy : 0 ≤ y ∧ y < 20000) : 0 ≤ (fullOf x y z).2.2.1 ∧ (fullOf x y z).2.2.1 ≤ 1000000000000000000 := by
  unfold fullOf
  rw [if_pos hf]
  show 0 ≤ 1000000000 * y ∧ 1000000000 * y ≤ 1000000000000000000
  omega
def BPost (B : Nat) (a0 : Option Addr) (len cap b : Nat) (w : World) (e : Ending) (w' : World) : Prop := ∃ r u l t, e = .returned (.agg #[.int .i64 r, .int .i64 u, .int .i64 l, .int .i64 t]) ∧ Cur B a0 len cap b w' ∧ Only b w w'
theorem tabR_in (X : Nat) (h : X < 3) : ∃ y : Int, (#[Value.int IntKind.i64 (-1), Value.int IntKind.i64 1000000000000, Value.int IntKind.i64 1000000000001] : Array Value)[X]? = some (.int .i64 y) := by
  match X, h with
  | 0, _ => exact ⟨_, rfl⟩
  | 1, _ => exact ⟨_, rfl⟩
  | 2, _ => exact ⟨_, rfl⟩
theorem tabU_in (X : Nat) (h : X < 4) : ∃ y : Int, (#[Value.int IntKind.i64 (-1), Value.int IntKind.i64 1000000000, Value.int IntKind.i64 1000000001, Value.int IntKind.i64 (-4611686018427387904)] : Array Value)[X]? = some (.int .i64 y) := by
  match X, h with
  | 0, _ => exact ⟨_, rfl⟩
  | 1, _ => exact ⟨_, rfl⟩
  | 2, _ => exact ⟨_, rfl⟩
  | 3, _ => exact ⟨_, rfl⟩
theorem tabL_in (z : Int) (X : Nat) (h : X < 3) : ∃ y : Int, (#[Value.int IntKind.i64 (-1), Value.int IntKind.i64 z, Value.int IntKind.i64 4611686018427387904] : Array Value)[X]? = some (.int .i64 y) := by
  match X, h with
  | 0, _ => exact ⟨_, rfl⟩
  | 1, _ => exact ⟨_, rfl⟩
  | 2, _ => exact ⟨_, rfl⟩
theorem tabT_in (X : Nat) (h : X < 3) : ∃ y : Int, (#[Value.int IntKind.i64 (-1), Value.int IntKind.i64 1000000000000000, Value.int IntKind.i64 1000000000000001] : Array Value)[X]? = some (.int .i64 y) := by
  match X, h with
  | 0, _ => exact ⟨_, rfl⟩
  | 1, _ => exact ⟨_, rfl⟩
  | 2, _ => exact ⟨_, rfl⟩
end Go.Proofs.Ytmophpbfaonfmad
namespace Go.Proofs.Ytmophpbfaonfmad
open Go.ChangeShapes Go.WideShapes Go.ChangeAt Go.RowKit
set_option maxRecDepth 100000
set_option linter.unusedVariables false

theorem sizeTab_in (X : Nat) (h : X < 6) : ∃ y : Int, (#[Value.int IntKind.i64 0, Value.int IntKind.i64 1, Value.int IntKind.i64 1500, Value.int IntKind.i64 1501, Value.int IntKind.i64 (-1), Value.int IntKind.i64 4611686018427387904] : Array Value)[X]? = some (.int .i64 y) := by
  match X, h with
  | 0, _ => exact ⟨_, rfl⟩
  | 1, _ => exact ⟨_, rfl⟩
  | 2, _ => exact ⟨_, rfl⟩
  | 3, _ => exact ⟨_, rfl⟩
  | 4, _ => exact ⟨_, rfl⟩
  | 5, _ => exact ⟨_, rfl⟩
set_option maxHeartbeats 400000 in
theorem drawSize_acc {B : Nat} {a0 : Option Addr} {len cap b : Nat} {w0 w : World} (c : Cur B a0 len cap b w) (o : Only b w0 w) :
    Calls Try.prog 87 #[.pointer (some ⟨b, 0, none⟩)] w fun e w' => ∃ x : Int, e = .returned (.int .i64 x) ∧ Cur B a0 len cap b w' ∧ Only b w0 w' := by
  go_enter Try.func87, Try.ntmps87
  go_wp2_with (first
    | (go_at_call 61; refine (once_acc _ (by assumption) (by assumption) (by omega) (by omega)).mono ?_; rintro e w2 ⟨f, rfl, c, o⟩; cases f)
    | (go_at_call_of 62 (Value.int IntKind.i64 1500); refine (below_acc _ (by assumption) (by assumption) (by omega) (by omega)).mono ?_; rintro e w2 ⟨x, rfl, hx, c, o⟩)
    | (go_at_call_of 62 (Value.int IntKind.i64 6); refine (below_acc 6 (Cur.alloc (by assumption) _) (Only.refl _ _) (by omega) (by omega)).mono ?_; rintro e w3 ⟨x, rfl, hx, c3, o3⟩; obtain ⟨X, rfl⟩ := Int.eq_ofNat_of_zero_le hx.1; obtain ⟨y, hy⟩ := sizeTab_in X (by omega); have hcell := (table_cell (Cur.hi (by assumption)) o3 X).trans hy; clear hy))
  all_goals go_ret
  all_goals first | exact ⟨_, rfl, c3, (o.alloc _).trans o3⟩ | exact ⟨_, rfl, c, o⟩
def WhenPost (w : World) (e : Ending) (w' : World) : Prop := ∃ r u l t n, e = .returned (.tuple #[.agg #[.int .i64 r, .int .i64 u, .int .i64 l, .int .i64 t], .int .i64 n]) ∧ Below w.heap.size w w'
end Go.Proofs.Ytmophpbfaonfmad
