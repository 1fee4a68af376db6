/- The draws of filters and times. -/
import Derived.Test.YtmophpbfaonfmabDraw3b
import Derived.Test.YtmophpbfaonfmabDraws1
namespace Go.Proofs.Ytmophpbfaonfmab
open Go.ChangeShapes Go.WideShapes Go.ChangeAt Go.RowKit
set_option maxRecDepth 100000
set_option linter.unusedVariables false

theorem I64_of_wrap (x : Int) : I64 (IntKind.i64.wrap x) := by rw [IntKind.wrap_i64]; unfold I64; omega
def SPost (w : World) (e : Ending) (w' : World) : Prop := ∃ a n c ys t, e = .returned (.tuple #[.agg #[.slice a n c], .int .i64 t]) ∧ FV w' w.heap.size (.slice a n c) ys ∧ ys.length ≤ 101 ∧ I64 t ∧ Below w.heap.size w w'
set_option maxHeartbeats 4000000 in
theorem drawSince_any {B : Nat} {a0 : Option Addr} {len : Nat} (cap : Nat) {w : World} (hs : len ≤ 4096) (row : Row B a0 len w) (hB : B ≤ w.heap.size) :
    Calls Try.prog 24 #[.slice a0 len cap] w (SPost w) := by
  go_enter Try.func24, Try.ntmps24
  go_wp2_with (first
    | (go_at_call 37; refine (new_any cap hs (row.mono ((Below.refl B w).alloc hB _)) (by simp; omega)).mono ?_; rintro e w1 ⟨b, rfl, hb, k1, hb1⟩; have hb' : w.heap.size < b := (by simp at hb; omega); have r1 := (below_cells hb1 w.heap.size 0 (by simp)).trans (show _ = some (.slice none 0 0) from (by go_simp)); have r2 := (below_frozens hb1 w.heap.size 0 (by simp)).trans (show _ = false from (by go_simp)); have hbw := below_step (w := w) (by go_grown) hb1)
    | (go_at_call 45; refine (l3Draw_acc true k1).mono ?_; rintro e w2 ⟨a, n, c, ys, rfl, hfv, hys, k2, o2⟩; have r1 := (only_cells o2 w.heap.size 0 (by have := k1.hi; omega) (by omega)).trans r1; have r2 := (only_frozens o2 w.heap.size 0 (by have := k1.hi; omega) (by omega)).trans r2; have zz := o2.size))
  have hbs : b < w2.heap.size := k2.hi
  have hwb : w.heap.size < w2.heap.size := by omega
  have n0 : w2.heap.size ≠ b := by omega
  have n1 : w.heap.size ≠ b := by omega
  have n2 : w.heap.size ≠ w2.heap.size := by omega
  go_region_held3 (fun w' => w'.cell? ⟨w2.heap.size, 0, none⟩ = some (.slice a n c)) (first | assumption | (simp only [World.cell?_drew]; assumption) | go_keep)
    (first
      | (go_at_call_of 40 (Value.int IntKind.i64 3); refine (below_acc _ (k2.mono (by go_grown)) (Only.refl _ _) (by omega) (by omega)).mono ?_; rintro e w3 ⟨x3, rfl, hx3, k3, o3⟩; have hr := o3.size; (try simp at hr); have j0 := (only_cells o3 w2.heap.size 0 (by simp; try omega) (by omega)).trans (show _ = some (.slice a n c) from (by go_simp)); have r1 := (only_cells o3 w.heap.size 0 (by simp; try omega) (by omega)).trans (show _ = some (.slice none 0 0) from (by go_simp)); have r2 := (only_frozens o3 w.heap.size 0 (by simp; try omega) (by omega)).trans (show _ = false from (by go_simp)); have h3 : w2.heap.size < w3.heap.size := (by have := o3.size; simp at this; omega))
      | (go_at_call 60; refine (drawTime_acc k3 (Only.refl _ _)).mono ?_; rintro e w4 ⟨x4, rfl, hx4, k4, o4⟩; have z4 := o4.size; have j0 := (only_cells o4 w2.heap.size 0 (by omega) (by omega)).trans j0; have r1 := (only_cells o4 w.heap.size 0 (by omega) (by omega)).trans r1; have r2 := (only_frozens o4 w.heap.size 0 (by omega) (by omega)).trans r2)
      | (go_at_call_of 40 (Value.int IntKind.i64 2000); refine (below_acc _ k4 (Only.refl _ _) (by omega) (by omega)).mono ?_; rintro e w5 ⟨x5, rfl, hx5, k5, o5⟩; have z5 := o5.size; have j0 := (only_cells o5 w2.heap.size 0 (by omega) (by omega)).trans j0; have r1 := (only_cells o5 w.heap.size 0 (by omega) (by omega)).trans r1; have r2 := (only_frozens o5 w.heap.size 0 (by omega) (by omega)).trans r2))
  go_wp2
  have oo := o3.trans (o4.trans o5)
  have f5 := ((hfv.next (w' := (w2.alloc (.cells #[.slice a n c] 35)).drew) (by go_grown)).onlyO (OnlyO.of_only oo) (fun g hg e => by have := (hfv.own hg).1; have := k1.hi; injection e with e; omega))
  have oR : Only w.heap.size w5 (w5.setCell ⟨w.heap.size, 0, none⟩ (.slice a n c)) := (Only.refl w.heap.size w5).setCell (p := ⟨w.heap.size, 0, none⟩) rfl _
  refine bodyPost_ret (results_two rfl _ _ _ [.slice a n c] rfl (cells_one (set_same (u := .slice none 0 0) _ r1)) Try.underlying35 rfl (by kernel_rfl)) rfl ?_
  refine ⟨a, n, c, ys, _, rfl, (f5.onlyO (OnlyO.of_only oR) (fun g hg e => by have := (hfv.own hg).1; have := k1.hi; injection e with e; omega)).lower (by have := hbw.size; omega), hys, I64_of_wrap _, ?_⟩
  have h2 : Below w.heap.size w w2 := hbw.trans (o2.below (by omega) (by have := hbw.size; omega))
  have h3 : Below w.heap.size w (w2.alloc (.cells #[.slice a n c] 35)).drew := by go_grown
  exact (h3.trans (oo.below (by omega) (by simp; omega))).setCell (by simp) _
end Go.Proofs.Ytmophpbfaonfmab
