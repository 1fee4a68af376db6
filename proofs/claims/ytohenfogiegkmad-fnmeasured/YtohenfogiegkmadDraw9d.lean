/- The draw of a trip and a time. -/
import Derived.Test.YtohenfogiegkmadDraw9c
namespace Go.Proofs.Ytohenfogiegkmad
open Go.ChangeShapes Go.WideShapes Go.ChangeAt Go.RowKit
set_option maxRecDepth 100000
set_option linter.unusedVariables false
set_option linter.unusedSimpArgs false

def MeasPost (w : World) (e : Ending) (w' : World) : Prop := ∃ (r : Bool) (u l t n : Int), e = .returned (.tuple #[.agg #[.bool r, .int .i64 u, .int .i64 l, .int .i64 t], .int .i64 n]) ∧ Below w.heap.size w w'
set_option maxHeartbeats 2000000 in
theorem drawMeasure_any {B : Nat} {a0 : Option Addr} {len : Nat} (cap : Nat) {w : World} (hs : len ≤ 4096) (row : Row B a0 len w) (hB : B ≤ w.heap.size) :
    Calls Try.prog 37 #[.slice a0 len cap] w (MeasPost w) := by
  have f0 : Trp4 (w.alloc (.cells #[.bool false, .int .i64 0, .int .i64 0, .int .i64 0] 67)) w.heap.size false 0 0 0 := ⟨by go_simp, by go_simp, by go_simp, by go_simp, fun i => by go_simp⟩
  go_enter Try.func37, Try.ntmps37
  go_wp2_with (first
    | (go_at_call 46; refine (new_any cap hs (row.mono ((Below.refl B w).alloc hB _)) (by simp; omega)).mono ?_; rintro e w1 ⟨b, rfl, hb, k1, hb1⟩; have hb' : w.heap.size < b := (by simp at hb; omega); have f1 := f0.only (Only.of_below (b := b) hb1) (by simp) (by omega); have hbw := start1 hb1; have z1 := hbw.size)
    | (go_at_call 90; refine (l9Draw_acc k1).mono ?_; rintro e w2 ⟨r, u, l, t, rfl, k2, o2⟩; have h1 := k1.hi; have f2 := f1.only o2 (by omega) (by omega); have zz := o2.size; have hbw := hbw.trans (o2.below (by omega) (by omega))))
  have hbs : b < w2.heap.size := k2.hi
  have n0 : w2.heap.size ≠ b := by omega
  have n2 : w2.heap.size ≠ w.heap.size := by omega
  have n3 : w.heap.size ≠ w2.heap.size := by omega
  go_region_held3 (fun w' => w'.cell? ⟨w2.heap.size, 0, none⟩ = some (.bool r) ∧ w'.cell? ⟨w2.heap.size, 1, none⟩ = some (.int .i64 u) ∧ w'.cell? ⟨w2.heap.size, 2, none⟩ = some (.int .i64 l) ∧ w'.cell? ⟨w2.heap.size, 3, none⟩ = some (.int .i64 t)) (go_keep)
    (first
      | (go_at_call 70; refine (drawTime_acc (k2.mono (by go_grown)) (Only.refl _ _)).mono ?_; rintro e w3 ⟨x3, rfl, _, k3, o3⟩; have z3 := o3.size; (try simp at z3); have f3 := (f2.only (w' := (w2.alloc (.cells #[.bool r, .int .i64 u, .int .i64 l, .int .i64 t] 67)).drew) (Only.of_below (b := b) (by go_grown)) (by omega) (by omega)).only o3 (by simp; omega) (by omega); have g3 := (Trp4.only (w := (w2.alloc (.cells #[.bool r, .int .i64 u, .int .i64 l, .int .i64 t] 67)).drew) (r := r) (u := u) (l := l) (t := t) ⟨by go_simp, by go_simp, by go_simp, by go_simp, fun i => (by go_simp)⟩ o3 (by simp) n0); have j0 := g3.c0; have j1 := g3.c1; have j2 := g3.c2; have j3 := g3.c3; have q0 := f3.c0; have q1 := f3.c1; have q2 := f3.c2; have q3 := f3.c3; have qf := f3.fr; have hbw3 : Below w.heap.size w w3 := ((by go_grown : Below w.heap.size w (w2.alloc (.cells #[.bool r, .int .i64 u, .int .i64 l, .int .i64 t] 67)).drew)).trans (o3.below (by omega) (by simp; omega))))
  go_wp2
  refine bodyPost_ret (results_two rfl _ _ _ [.bool r, .int .i64 u, .int .i64 l, .int .i64 t] rfl (cells_set4 _ _ _ _ q0 q1 q2 q3) Try.underlying67 rfl (by kernel_rfl)) rfl ?_
  exact ⟨r, u, l, t, x3, rfl, (((hbw3.setCell (by exact Nat.le_refl _) _).setCell (by exact Nat.le_refl _) _).setCell (by exact Nat.le_refl _) _).setCell (by exact Nat.le_refl _) _⟩
end Go.Proofs.Ytohenfogiegkmad
