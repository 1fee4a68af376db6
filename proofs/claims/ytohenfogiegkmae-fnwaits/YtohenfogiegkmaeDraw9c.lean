/- The draws of chapter 9. -/
import Derived.Test.YtohenfogiegkmaeDraw9b
namespace Go.Proofs.Ytohenfogiegkmae
open Go.ChangeShapes Go.WideShapes Go.ChangeAt Go.RowKit
set_option maxRecDepth 100000
set_option linter.unusedVariables false
set_option linter.unusedSimpArgs false

def TripPost (w : World) (e : Ending) (w' : World) : Prop := ∃ (k : Bool) (x y z : Int), e = .returned (.agg #[.bool k, .int .i64 x, .int .i64 y, .int .i64 z]) ∧ Below w.heap.size w w'
set_option maxHeartbeats 2000000 in
theorem drawTripOk_any {B : Nat} {a0 : Option Addr} {len : Nat} (cap : Nat) {w : World} (hs : len ≤ 4096) (row : Row B a0 len w) (hB : B ≤ w.heap.size) :
    Calls Try.prog 10 #[.slice a0 len cap] w (TripPost w) := by
  have f0 : Trp4 (w.alloc (.cells #[.bool false, .int .i64 0, .int .i64 0, .int .i64 0] 25)) w.heap.size false 0 0 0 := ⟨by go_simp, by go_simp, by go_simp, by go_simp, fun i => by go_simp⟩
  go_enter Try.func10, Try.ntmps10
  go_wp2_with (first
    | (go_at_call 17; refine (new_any cap hs (row.mono ((Below.refl B w).alloc hB _)) (by simp; omega)).mono ?_; rintro e w1 ⟨b, rfl, hb, k1, hb1⟩; have hb' : w.heap.size < b := (by simp at hb; omega); have f1 := f0.only (Only.of_below (b := b) hb1) (by simp) (by omega); have hbw := start1 hb1; have z1 := hbw.size)
    | (go_at_call 18; refine (l9Draw_acc k1).mono ?_; rintro e w2 ⟨k, x, y, z, rfl, k2, o2⟩; have h1 := k1.hi; have f2 := f1.only o2 (by omega) (by omega); have zz := o2.size; have hbw := hbw.trans (o2.below (by omega) (by omega)); have q0 := f2.c0; have q1 := f2.c1; have q2 := f2.c2; have q3 := f2.c3; have qf := f2.fr))
  refine bodyPost_ret (results_one rfl _ _ _ [.bool k, .int .i64 x, .int .i64 y, .int .i64 z] rfl (cells_set4 _ _ _ _ q0 q1 q2 q3) Try.underlying25 rfl (by kernel_rfl)) rfl ?_
  exact ⟨k, x, y, z, rfl, (((hbw.setCell (by exact Nat.le_refl _) _).setCell (by exact Nat.le_refl _) _).setCell (by exact Nat.le_refl _) _).setCell (by exact Nat.le_refl _) _⟩
set_option maxHeartbeats 2000000 in
theorem drawWait_any {B : Nat} {a0 : Option Addr} {len : Nat} (cap : Nat) {w : World} (hs : len ≤ 4096) (row : Row B a0 len w) (hB : B ≤ w.heap.size) :
    Calls Try.prog 5 #[.slice a0 len cap] w (TripPost w) := by
  have f0 : Trp4 (w.alloc (.cells #[.bool false, .int .i64 0, .int .i64 0, .int .i64 0] 25)) w.heap.size false 0 0 0 := ⟨by go_simp, by go_simp, by go_simp, by go_simp, fun i => by go_simp⟩
  go_enter Try.func5, Try.ntmps5
  go_wp2_with (first
    | (go_at_call 10; refine (drawTripOk_any cap hs (row.mono ((Below.refl B w).alloc hB _)) (by simp; omega)).mono ?_; rintro e w2 ⟨k, x, y, z, rfl, hb2⟩; have f2 := f0.only (Only.of_below (b := w.heap.size + 1) hb2) (by simp) (by omega); have hbw := start1 hb2; have q0 := f2.c0; have q1 := f2.c1; have q2 := f2.c2; have q3 := f2.c3; have qf := f2.fr))
  refine bodyPost_ret (results_one rfl _ _ _ [.bool k, .int .i64 x, .int .i64 y, .int .i64 z] rfl (cells_set4 _ _ _ _ q0 q1 q2 q3) Try.underlying25 rfl (by kernel_rfl)) rfl ?_
  exact ⟨k, x, y, z, rfl, (((hbw.setCell (by exact Nat.le_refl _) _).setCell (by exact Nat.le_refl _) _).setCell (by exact Nat.le_refl _) _).setCell (by exact Nat.le_refl _) _⟩
end Go.Proofs.Ytohenfogiegkmae
