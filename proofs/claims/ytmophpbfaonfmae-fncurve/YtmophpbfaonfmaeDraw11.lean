/- The draw of a curve's arguments. -/
import Derived.Test.YtmophpbfaonfmaeDraws1
namespace Go.Proofs.Ytmophpbfaonfmae
open Go.ChangeShapes Go.WideShapes Go.ChangeAt Go.RowKit
set_option maxRecDepth 100000
set_option linter.unusedVariables false

theorem msTab_in (X : Nat) (h : X < 5) : ∃ y : Int, (#[Value.int IntKind.i64 (-1), Value.int IntKind.i64 0, Value.int IntKind.i64 1000000, Value.int IntKind.i64 1000001, Value.int IntKind.i64 4611686018427387904] : Array Value)[X]? = some (.int .i64 y) := by
  match X, h with
  | 0, _ => exact ⟨_, rfl⟩
  | 1, _ => exact ⟨_, rfl⟩
  | 2, _ => exact ⟨_, rfl⟩
  | 3, _ => exact ⟨_, rfl⟩
  | 4, _ => exact ⟨_, rfl⟩
set_option maxHeartbeats 1000000 in
theorem drawCubicAt_any {B : Nat} {a0 : Option Addr} {len : Nat} (cap : Nat) {w : World} (hs : len ≤ 4096) (row : Row B a0 len w) (hB : B ≤ w.heap.size) :
    Calls Try.prog 29 #[.slice a0 len cap] w fun e w' => ∃ x y z : Int, e = .returned (.tuple #[.int .i64 x, .int .i64 y, .int .i64 z]) ∧ Below w.heap.size w w' := by
  go_enter Try.func29, Try.ntmps29
  go_wp2_with (first
    | (go_at_call 47; refine (new_any cap hs row hB).mono ?_; rintro e w1 ⟨b, rfl, hb, c, hb1⟩; have o := Only.refl b w1)
    | (go_at_call 64; refine (drawWindow_acc (by assumption) (by assumption)).mono ?_; rintro e w2 ⟨time, rfl, htime, c, o⟩)
    | (go_at_call 66; refine (once_acc _ (by assumption) (by assumption) (by omega) (by omega)).mono ?_; rintro e w5 ⟨f, rfl, c, o⟩; cases f)
    | (go_at_call 65; have g1 := bl1; refine (below_acc 5 (Cur.alloc (by assumption) _) (Only.refl _ _) (by omega) (by omega)).mono ?_; rintro e w4 ⟨x4, rfl, hx4, c4, o4⟩; obtain ⟨X, rfl⟩ := Int.eq_ofNat_of_zero_le hx4.1; obtain ⟨y, hy⟩ := msTab_in X (by omega); have hcell := (table_cell (Cur.hi (by assumption)) o4 X).trans hy; have o := (o.alloc _).trans o4; have c := c4; clear hy bl1)
    | (go_at_call 65; refine (below_acc _ (by assumption) (by assumption) (by omega) (by omega)).mono ?_; rintro e w3 ⟨x, rfl, hx, c, o⟩; have bl1 := hx))
  all_goals refine bodyPost_ret (results_tmp3 rfl _ _ _) rfl ?_
  all_goals exact ⟨_, _, _, rfl, hb1.trans (o.below hb hb1.size)⟩
end Go.Proofs.Ytmophpbfaonfmae
