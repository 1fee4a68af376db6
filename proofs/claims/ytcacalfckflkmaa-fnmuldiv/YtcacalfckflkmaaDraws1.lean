/- The draws of chapter 1's arguments: whatever the bytes, numbers of 64 bits; nothing that was there is written. -/
import Derived.Test.YtcacalfckflkmaaNew
namespace Go.Proofs.Ytcacalfckflkmaa
open Go.ChangeShapes Go.WideShapes Go.ChangeAt Go.RowKit
set_option linter.unusedVariables false

set_option maxHeartbeats 400000 in
theorem drawAdd_any {B : Nat} {a0 : Option Addr} {len : Nat} (cap : Nat) {w : World} (hs : len ≤ 4096) (row : Row B a0 len w) (hB : B ≤ w.heap.size) :
    Calls Try.prog 8 #[.slice a0 len cap] w fun e w' => ∃ x y : Int, e = .returned (.tuple #[.int .i64 x, .int .i64 y]) ∧ I64 x ∧ I64 y ∧ Below w.heap.size w w' := by
  go_enter Try.func8, Try.ntmps8
  go_wp2_with (first
    | (go_at_call 23; refine (new_any cap hs row hB).mono ?_; rintro e w1 ⟨b, rfl, hb, c, hb1⟩; have o := Only.refl b w1)
    | (go_at_call 24; refine (odd_acc (by assumption) (by assumption)).mono ?_; rintro e w2 ⟨x, rfl, hx, c, o⟩)
    | (go_at_call 25; refine (once_acc _ (by assumption) (by assumption) (by omega) (by omega)).mono ?_; rintro e w2 ⟨f, rfl, c, o⟩; cases f)
    | (go_at_call 26; refine (from_acc _ _ (by assumption) (by assumption) (by omega) (by omega) (by omega)).mono ?_; rintro e w2 ⟨x, rfl, hx, c, o⟩)
    | (go_at_call 27; refine (below_acc _ (by assumption) (by assumption) (by omega) (by omega)).mono ?_; rintro e w2 ⟨x, rfl, hx, c, o⟩))
  all_goals go_ret2
  all_goals exact ⟨_, _, rfl, by unfold I64; omega, I64_wrap _, hb1.trans (o.below hb hb1.size)⟩

theorem rateTab_in (X : Nat) (h : X < 6) : ∃ y : Int, (#[Value.int IntKind.i64 0, Value.int IntKind.i64 1, Value.int IntKind.i64 1000000000000, Value.int IntKind.i64 1000000000001, Value.int IntKind.i64 (-1), Value.int IntKind.i64 4611686018427387904] : Array Value)[X]? = some (.int .i64 y) ∧ I64 y := by
  match X, h with
  | 0, _ => exact ⟨_, rfl, by unfold I64; decide⟩
  | 1, _ => exact ⟨_, rfl, by unfold I64; decide⟩
  | 2, _ => exact ⟨_, rfl, by unfold I64; decide⟩
  | 3, _ => exact ⟨_, rfl, by unfold I64; decide⟩
  | 4, _ => exact ⟨_, rfl, by unfold I64; decide⟩
  | 5, _ => exact ⟨_, rfl, by unfold I64; decide⟩

set_option maxHeartbeats 400000 in
theorem drawRate_acc {B : Nat} {a0 : Option Addr} {len cap b : Nat} {w0 w : World} (c : Cur B a0 len cap b w) (o : Only b w0 w) :
    Calls Try.prog 30 #[.pointer (some ⟨b, 0, none⟩)] w fun e w' => ∃ x : Int, e = .returned (.int .i64 x) ∧ I64 x ∧ Cur B a0 len cap b w' ∧ Only b w0 w' := by
  go_enter Try.func30, Try.ntmps30
  go_wp2_with (first
    | (go_at_call 25; refine (once_acc _ (by assumption) (by assumption) (by omega) (by omega)).mono ?_; rintro e w2 ⟨f, rfl, c, o⟩; cases f)
    | (go_at_call 27; refine (below_acc _ (by assumption) (by assumption) (by omega) (by omega)).mono ?_; rintro e w2 ⟨x, rfl, hx, c, o⟩)
    | (go_at_call 27; refine (below_acc 6 (Cur.alloc (by assumption) _) (Only.refl _ _) (by omega) (by omega)).mono ?_; rintro e w3 ⟨x, rfl, hx, c3, o3⟩; obtain ⟨X, rfl⟩ := Int.eq_ofNat_of_zero_le hx.1; obtain ⟨y, hy, hby⟩ := rateTab_in X (by omega); have hcell := (table_cell (Cur.hi (by assumption)) o3 X).trans hy; clear hy))
  all_goals go_ret
  all_goals first | exact ⟨_, rfl, hby, c3, (o.alloc _).trans o3⟩ | exact ⟨_, rfl, by unfold I64; omega, c, o⟩

theorem timeTab_in (X : Nat) (h : X < 6) : ∃ y : Int, (#[Value.int IntKind.i64 0, Value.int IntKind.i64 1000000000000000, Value.int IntKind.i64 1000000000000001, Value.int IntKind.i64 (-1), Value.int IntKind.i64 4611686018427387904, Value.int IntKind.i64 (-9223372036854775808)] : Array Value)[X]? = some (.int .i64 y) ∧ I64 y := by
  match X, h with
  | 0, _ => exact ⟨_, rfl, by unfold I64; decide⟩
  | 1, _ => exact ⟨_, rfl, by unfold I64; decide⟩
  | 2, _ => exact ⟨_, rfl, by unfold I64; decide⟩
  | 3, _ => exact ⟨_, rfl, by unfold I64; decide⟩
  | 4, _ => exact ⟨_, rfl, by unfold I64; decide⟩
  | 5, _ => exact ⟨_, rfl, by unfold I64; decide⟩

set_option maxHeartbeats 400000 in
theorem drawTime_acc {B : Nat} {a0 : Option Addr} {len cap b : Nat} {w0 w : World} (c : Cur B a0 len cap b w) (o : Only b w0 w) :
    Calls Try.prog 37 #[.pointer (some ⟨b, 0, none⟩)] w fun e w' => ∃ x : Int, e = .returned (.int .i64 x) ∧ I64 x ∧ Cur B a0 len cap b w' ∧ Only b w0 w' := by
  go_enter Try.func37, Try.ntmps37
  go_wp2_with (first
    | (go_at_call 25; refine (once_acc _ (by assumption) (by assumption) (by omega) (by omega)).mono ?_; rintro e w2 ⟨f, rfl, c, o⟩; cases f)
    | (go_at_call 27; refine (below_acc _ (by assumption) (by assumption) (by omega) (by omega)).mono ?_; rintro e w2 ⟨x, rfl, hx, c, o⟩)
    | (go_at_call 27; refine (below_acc 6 (Cur.alloc (by assumption) _) (Only.refl _ _) (by omega) (by omega)).mono ?_; rintro e w3 ⟨x, rfl, hx, c3, o3⟩; obtain ⟨X, rfl⟩ := Int.eq_ofNat_of_zero_le hx.1; obtain ⟨y, hy, hby⟩ := timeTab_in X (by omega); have hcell := (table_cell (Cur.hi (by assumption)) o3 X).trans hy; clear hy))
  all_goals go_ret
  all_goals first | exact ⟨_, rfl, hby, c3, (o.alloc _).trans o3⟩ | exact ⟨_, rfl, by unfold I64; omega, c, o⟩

theorem windowTab_in (X : Nat) (h : X < 6) : ∃ y : Int, (#[Value.int IntKind.i64 0, Value.int IntKind.i64 3000, Value.int IntKind.i64 1000000000, Value.int IntKind.i64 1000000001, Value.int IntKind.i64 (-1), Value.int IntKind.i64 4611686018427387904] : Array Value)[X]? = some (.int .i64 y) ∧ I64 y := by
  match X, h with
  | 0, _ => exact ⟨_, rfl, by unfold I64; decide⟩
  | 1, _ => exact ⟨_, rfl, by unfold I64; decide⟩
  | 2, _ => exact ⟨_, rfl, by unfold I64; decide⟩
  | 3, _ => exact ⟨_, rfl, by unfold I64; decide⟩
  | 4, _ => exact ⟨_, rfl, by unfold I64; decide⟩
  | 5, _ => exact ⟨_, rfl, by unfold I64; decide⟩

set_option maxHeartbeats 400000 in
theorem drawWindow_acc {B : Nat} {a0 : Option Addr} {len cap b : Nat} {w0 w : World} (c : Cur B a0 len cap b w) (o : Only b w0 w) :
    Calls Try.prog 31 #[.pointer (some ⟨b, 0, none⟩)] w fun e w' => ∃ x : Int, e = .returned (.int .i64 x) ∧ I64 x ∧ Cur B a0 len cap b w' ∧ Only b w0 w' := by
  go_enter Try.func31, Try.ntmps31
  go_wp2_with (first
    | (go_at_call 25; refine (once_acc _ (by assumption) (by assumption) (by omega) (by omega)).mono ?_; rintro e w2 ⟨f, rfl, c, o⟩; cases f)
    | (go_at_call 27; refine (below_acc _ (by assumption) (by assumption) (by omega) (by omega)).mono ?_; rintro e w2 ⟨x, rfl, hx, c, o⟩)
    | (go_at_call 27; refine (below_acc 6 (Cur.alloc (by assumption) _) (Only.refl _ _) (by omega) (by omega)).mono ?_; rintro e w3 ⟨x, rfl, hx, c3, o3⟩; obtain ⟨X, rfl⟩ := Int.eq_ofNat_of_zero_le hx.1; obtain ⟨y, hy, hby⟩ := windowTab_in X (by omega); have hcell := (table_cell (Cur.hi (by assumption)) o3 X).trans hy; clear hy))
  all_goals go_ret
  all_goals first | exact ⟨_, rfl, hby, c3, (o.alloc _).trans o3⟩ | exact ⟨_, rfl, by unfold I64; omega, c, o⟩

set_option maxHeartbeats 400000 in
theorem drawBytes_any {B : Nat} {a0 : Option Addr} {len : Nat} (cap : Nat) {w : World} (hs : len ≤ 4096) (row : Row B a0 len w) (hB : B ≤ w.heap.size) :
    Calls Try.prog 20 #[.slice a0 len cap] w fun e w' => ∃ x y : Int, e = .returned (.tuple #[.int .i64 x, .int .i64 y]) ∧ I64 x ∧ I64 y ∧ Below w.heap.size w w' := by
  go_enter Try.func20, Try.ntmps20
  go_wp2_with (first
    | (go_at_call 23; refine (new_any cap hs row hB).mono ?_; rintro e w1 ⟨b, rfl, hb, c, hb1⟩; have o := Only.refl b w1)
    | (go_at_call 30; refine (drawRate_acc (by assumption) (by assumption)).mono ?_; rintro e w2 ⟨rate, rfl, hrate, c, o⟩)
    | (go_at_call 37; refine (drawTime_acc (by assumption) (by assumption)).mono ?_; rintro e w2 ⟨time, rfl, htime, c, o⟩))
  all_goals go_ret2
  all_goals exact ⟨_, _, rfl, by first | assumption | (unfold I64; omega), by first | assumption | (unfold I64; omega), hb1.trans (o.below hb hb1.size)⟩

set_option maxHeartbeats 400000 in
theorem drawTimeFor_any {B : Nat} {a0 : Option Addr} {len : Nat} (cap : Nat) {w : World} (hs : len ≤ 4096) (row : Row B a0 len w) (hB : B ≤ w.heap.size) :
    Calls Try.prog 17 #[.slice a0 len cap] w fun e w' => ∃ x y : Int, e = .returned (.tuple #[.int .i64 x, .int .i64 y]) ∧ I64 x ∧ I64 y ∧ Below w.heap.size w w' := by
  go_enter Try.func17, Try.ntmps17
  go_wp2_with (first
    | (go_at_call 23; refine (new_any cap hs row hB).mono ?_; rintro e w1 ⟨b, rfl, hb, c, hb1⟩; have o := Only.refl b w1)
    | (go_at_call 30; refine (drawRate_acc (by assumption) (by assumption)).mono ?_; rintro e w2 ⟨rate, rfl, hrate, c, o⟩)
    | (go_at_call 31; refine (drawWindow_acc (by assumption) (by assumption)).mono ?_; rintro e w2 ⟨window, rfl, hwindow, c, o⟩)
    | (go_at_call 25; refine (once_acc _ (by assumption) (by assumption) (by omega) (by omega)).mono ?_; rintro e w2 ⟨f, rfl, c, o⟩; cases f)
    | (go_at_call 27; refine (below_acc _ (by assumption) (by assumption) (by omega) (by omega)).mono ?_; rintro e w2 ⟨x, rfl, hx, c, o⟩))
  all_goals go_ret2
  all_goals exact ⟨_, _, rfl, by first | assumption | (unfold I64; omega), by first | assumption | (unfold I64; omega), hb1.trans (o.below hb hb1.size)⟩

set_option maxHeartbeats 400000 in
theorem drawCubeRoot_any {B : Nat} {a0 : Option Addr} {len : Nat} (cap : Nat) {w : World} (hs : len ≤ 4096) (row : Row B a0 len w) (hB : B ≤ w.heap.size) :
    Calls Try.prog 14 #[.slice a0 len cap] w fun e w' => ∃ x : Int, e = .returned (.int .i64 x) ∧ I64 x ∧ Below w.heap.size w w' := by
  go_enter Try.func14, Try.ntmps14
  go_wp2_with (first
    | (go_at_call 23; refine (new_any cap hs row hB).mono ?_; rintro e w1 ⟨b, rfl, hb, c, hb1⟩; have o := Only.refl b w1)
    | (go_at_call 25; refine (once_acc _ (by assumption) (by assumption) (by omega) (by omega)).mono ?_; rintro e w2 ⟨f, rfl, c, o⟩; cases f)
    | (go_at_call 24; refine (odd_acc (by assumption) (by assumption)).mono ?_; rintro e w2 ⟨x, rfl, hx, c, o⟩)
    | (go_at_call 27; refine (below_acc _ (by assumption) (by assumption) (by omega) (by omega)).mono ?_; rintro e w2 ⟨x, rfl, hx, c, o⟩))
  all_goals go_ret
  all_goals exact ⟨_, rfl, by first | exact I64_wrap _ | assumption | (unfold I64; omega), hb1.trans (o.below hb hb1.size)⟩

end Go.Proofs.Ytcacalfckflkmaa
