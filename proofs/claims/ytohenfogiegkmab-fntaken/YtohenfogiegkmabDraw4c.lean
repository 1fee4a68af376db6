/- The draws of chapter 4: a bucket and a size. -/
import Derived.Test.YtohenfogiegkmabDraw4b
namespace Go.Proofs.Ytohenfogiegkmab
open Go.ChangeShapes Go.WideShapes Go.ChangeAt Go.RowKit
set_option maxRecDepth 100000
set_option linter.unusedVariables false

theorem sizeTab_in (X : Nat) (h : X < 6) : ∃ y : Int, (#[Value.int IntKind.i64 0, Value.int IntKind.i64 1, Value.int IntKind.i64 1500, Value.int IntKind.i64 1501, Value.int IntKind.i64 (-1), Value.int IntKind.i64 4611686018427387904] : Array Value)[X]? = some (.int .i64 y) := by
  match X, h with
  | 0, _ => exact ⟨_, rfl⟩
  | 1, _ => exact ⟨_, rfl⟩
  | 2, _ => exact ⟨_, rfl⟩
  | 3, _ => exact ⟨_, rfl⟩
  | 4, _ => exact ⟨_, rfl⟩
  | 5, _ => exact ⟨_, rfl⟩
set_option maxHeartbeats 400000 in
theorem drawSize_acc {B : Nat} {a0 : Option Addr} {len cap b : Nat} {w0 w : World} (c : Cur B a0 len cap b w) (o : Only b w0 w) :
    Calls Try.prog 63 #[.pointer (some ⟨b, 0, none⟩)] w fun e w' => ∃ x : Int, e = .returned (.int .i64 x) ∧ Cur B a0 len cap b w' ∧ Only b w0 w' := by
  go_enter Try.func63, Try.ntmps63
  go_wp2_with (first
    | (go_at_call 39; refine (once_acc _ (by assumption) (by assumption) (by omega) (by omega)).mono ?_; rintro e w2 ⟨f, rfl, c, o⟩; cases f)
    | (go_at_call_of 40 (Value.int IntKind.i64 1500); refine (below_acc _ (by assumption) (by assumption) (by omega) (by omega)).mono ?_; rintro e w2 ⟨x, rfl, hx, c, o⟩)
    | (go_at_call_of 40 (Value.int IntKind.i64 6); refine (below_acc 6 (Cur.alloc (by assumption) _) (Only.refl _ _) (by omega) (by omega)).mono ?_; rintro e w3 ⟨x, rfl, hx, c3, o3⟩; obtain ⟨X, rfl⟩ := Int.eq_ofNat_of_zero_le hx.1; obtain ⟨y, hy⟩ := sizeTab_in X (by omega); have hcell := (table_cell (Cur.hi (by assumption)) o3 X).trans hy; clear hy))
  all_goals go_ret
  all_goals first | exact ⟨_, rfl, c3, (o.alloc _).trans o3⟩ | exact ⟨_, rfl, c, o⟩
def WhenPost (w : World) (e : Ending) (w' : World) : Prop := ∃ r u l t n, e = .returned (.tuple #[.agg #[.int .i64 r, .int .i64 u, .int .i64 l, .int .i64 t], .int .i64 n]) ∧ Below w.heap.size w w'
set_option maxHeartbeats 2000000 in
theorem drawWhen_any {B : Nat} {a0 : Option Addr} {len : Nat} (cap : Nat) {w : World} (hs : len ≤ 4096) (row : Row B a0 len w) (hB : B ≤ w.heap.size) :
    Calls Try.prog 34 #[.slice a0 len cap] w (WhenPost w) := by
  have f0 : Four (w.alloc (.cells #[.int .i64 0, .int .i64 0, .int .i64 0, .int .i64 0] 49)) w.heap.size 0 0 0 0 := ⟨by go_simp, by go_simp, by go_simp, by go_simp, fun i => by go_simp⟩
  go_enter Try.func34, Try.ntmps34
  go_wp2_with (first
    | (go_at_call 37; refine (new_any cap hs (row.mono ((Below.refl B w).alloc hB _)) (by simp; omega)).mono ?_; rintro e w1 ⟨b, rfl, hb, k1, hb1⟩; have hb' : w.heap.size < b := (by simp at hb; omega); have f1 := f0.only (Only.of_below (b := b) hb1) (by simp) (by omega); have hbw := start1 hb1; have z1 := hbw.size)
    | (go_at_call 61; refine (l4Draw_acc k1).mono ?_; rintro e w2 ⟨r, u, l, t, rfl, k2, o2⟩; have h1 := k1.hi; have f2 := f1.only o2 (by omega) (by omega); have zz := o2.size; have hbw := hbw.trans (o2.below (by omega) (by omega))))
  have hbs : b < w2.heap.size := k2.hi
  have n0 : w2.heap.size ≠ b := by omega
  have n2 : w2.heap.size ≠ w.heap.size := by omega
  have n3 : w.heap.size ≠ w2.heap.size := by omega
  go_region_held3 (fun w' => w'.cell? ⟨w2.heap.size, 0, none⟩ = some (.int .i64 r) ∧ w'.cell? ⟨w2.heap.size, 1, none⟩ = some (.int .i64 u) ∧ w'.cell? ⟨w2.heap.size, 2, none⟩ = some (.int .i64 l) ∧ w'.cell? ⟨w2.heap.size, 3, none⟩ = some (.int .i64 t)) (go_keep)
    (first
      | (go_at_call 63; refine (drawSize_acc (k2.mono (by go_grown)) (Only.refl _ _)).mono ?_; rintro e w3 ⟨x3, rfl, k3, o3⟩; have z3 := o3.size; (try simp at z3); have f3 := (f2.only (w' := (w2.alloc (.cells #[.int .i64 r, .int .i64 u, .int .i64 l, .int .i64 t] 49)).drew) (Only.of_below (b := b) (by go_grown)) (by omega) (by omega)).only o3 (by simp; omega) (by omega); have g3 := (Four.only (w := (w2.alloc (.cells #[.int .i64 r, .int .i64 u, .int .i64 l, .int .i64 t] 49)).drew) (r := r) (u := u) (l := l) (t := t) ⟨by go_simp, by go_simp, by go_simp, by go_simp, fun i => (by go_simp)⟩ o3 (by simp) n0); have j0 := g3.c0; have j1 := g3.c1; have j2 := g3.c2; have j3 := g3.c3; have q0 := f3.c0; have q1 := f3.c1; have q2 := f3.c2; have q3 := f3.c3; have qf := f3.fr; have hbw3 : Below w.heap.size w w3 := ((by go_grown : Below w.heap.size w (w2.alloc (.cells #[.int .i64 r, .int .i64 u, .int .i64 l, .int .i64 t] 49)).drew)).trans (o3.below (by omega) (by simp; omega))))
  go_wp2
  refine bodyPost_ret (results_two rfl _ _ _ [.int .i64 r, .int .i64 u, .int .i64 l, .int .i64 t] rfl (cells_set4 _ _ _ _ q0 q1 q2 q3) Try.underlying49 rfl (by kernel_rfl)) rfl ?_
  exact ⟨r, u, l, t, x3, rfl, (((hbw3.setCell (by exact Nat.le_refl _) _).setCell (by exact Nat.le_refl _) _).setCell (by exact Nat.le_refl _) _).setCell (by exact Nat.le_refl _) _⟩
end Go.Proofs.Ytohenfogiegkmab
