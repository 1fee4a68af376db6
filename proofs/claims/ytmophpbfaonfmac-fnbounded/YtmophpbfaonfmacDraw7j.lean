/- The draw of a Lend that is spent from: its lists lie in blocks of its own. -/
import Derived.Test.YtmophpbfaonfmacGrpT
namespace Go.Proofs.Ytmophpbfaonfmac
open Go.ChangeShapes Go.WideShapes Go.ChangeAt Go.RowKit
set_option maxRecDepth 100000
set_option linter.unusedVariables false
set_option linter.unusedSimpArgs false

def DRPost (w : World) (e : Ending) (w' : World) : Prop := ∃ a1 c1 a2 c2 a3 c3 T O P leaf now n, e = .returned (.tuple #[lendV a1 (List.length T) c1 a2 (List.length O) c2 a3 (List.length P) c3, .int .i64 leaf, .int .i64 now, .int .i64 n]) ∧ (QR w.heap.size w' a1 T ∧ QR w.heap.size w' a2 O ∧ QR w.heap.size w' a3 P) ∧ (T.length ≤ 30 ∧ O.length ≤ 30 ∧ P.length ≤ 30) ∧ Below w.heap.size w w'
set_option maxHeartbeats 2000000 in
theorem drawAskR_any {B : Nat} {a0 : Option Addr} {len : Nat} (cap : Nat) {w0 : World} (hs : len ≤ 4096) (row : Row B a0 len w0) (hB : B ≤ w0.heap.size) :
    Calls Try.prog 94 #[.slice a0 len cap] w0 (DRPost w0) := by
  obtain ⟨w, hw, rw', ow, zw, r0, r1, r2, rf⟩ : ∃ w, w0.alloc (.cells #[.slice none 0 0, .slice none 0 0, .slice none 0 0] 64) = w ∧ Row B a0 len w ∧ Below w0.heap.size w0 w ∧ w.heap.size = w0.heap.size + 1 ∧ w.cell? ⟨w0.heap.size, 0, none⟩ = some (.slice none 0 0) ∧ w.cell? ⟨w0.heap.size, 1, none⟩ = some (.slice none 0 0) ∧ w.cell? ⟨w0.heap.size, 2, none⟩ = some (.slice none 0 0) ∧ ∀ i, w.frozen? ⟨w0.heap.size, i, none⟩ = false :=
    ⟨_, rfl, row.mono ((Below.refl B w0).alloc hB _), new_below _ _, by simp, by go_simp, by go_simp, by go_simp, fun i => by go_simp⟩
  go_enter Try.func94, Try.ntmps94
  go_upto_region 1 with (fail)
  clear hw
  go_wp2_with (first
    | (go_at_call 50; refine (new_any cap hs rw' (by omega)).mono ?_; rintro e w1 ⟨b, rfl, hb, k1, hb1⟩; have z1 := hb1.size; have hbb := k1.hi)
    | (go_at_call 122; refine (l7DrawAsk_acc k1).mono ?_; rintro e w2 ⟨a1, c1, a2, c2, a3, c3, T, O, P, leaf, now, n, rfl, ⟨k2, o2⟩, hq, hl⟩; have z2 := o2.size; have HQ : Hid (QR w1.heap.size w2 a1 T ∧ QR w1.heap.size w2 a2 O ∧ QR w1.heap.size w2 a3 P) := hq; clear hq; have q0 := (o2.cell (p := ⟨w0.heap.size, 0, none⟩) (by simp only; omega) (by simp only; omega)).trans ((below_cells hb1 _ _ (by omega)).trans r0); have q1 := (o2.cell (p := ⟨w0.heap.size, 1, none⟩) (by simp only; omega) (by simp only; omega)).trans ((below_cells hb1 _ _ (by omega)).trans r1); have q2 := (o2.cell (p := ⟨w0.heap.size, 2, none⟩) (by simp only; omega) (by simp only; omega)).trans ((below_cells hb1 _ _ (by omega)).trans r2); have qf := fun i => (o2.frozen (p := ⟨w0.heap.size, i, none⟩) (by simp only; omega) (by simp only; omega)).trans ((below_frozens hb1 _ _ (by omega)).trans (rf i))))
  refine bodyPost_ret (results_four rfl _ _ _ [.slice a1 T.length c1, .slice a2 O.length c2, .slice a3 P.length c3] rfl (set_three (u0 := .slice none 0 0) (u1 := .slice none 0 0) (u2 := .slice none 0 0) _ _ _ q0 q1 q2) Try.underlying64 rfl (by kernel_rfl)) rfl ?_
  have hO : Only w0.heap.size w2 (((w2.setCell ⟨w0.heap.size, 0, none⟩ (.slice a1 T.length c1)).setCell ⟨w0.heap.size, 1, none⟩ (.slice a2 O.length c2)).setCell ⟨w0.heap.size, 2, none⟩ (.slice a3 P.length c3)) := (((Only.refl w0.heap.size w2).setCell (p := ⟨w0.heap.size, 0, none⟩) rfl _).setCell (p := ⟨w0.heap.size, 1, none⟩) rfl _).setCell (p := ⟨w0.heap.size, 2, none⟩) rfl _
  have h1 : Below w0.heap.size w0 w1 := below_two ow hb1
  have h2 : Below w0.heap.size w0 w2 := h1.trans (o2.below (by omega) (by omega))
  exact ⟨a1, c1, a2, c2, a3, c3, T, O, P, leaf, now, n, rfl, ⟨(HQ.out.1.only hO (by omega)).lower (by omega), (HQ.out.2.1.only hO (by omega)).lower (by omega), (HQ.out.2.2.only hO (by omega)).lower (by omega)⟩, ⟨hl.1, hl.2.1, hl.2.2.1⟩, h2.trans (set3_below (Nat.le_refl _) (by omega) _ _ _)⟩
set_option maxHeartbeats 2000000 in
theorem drawSpend_any {B : Nat} {a0 : Option Addr} {len : Nat} (cap : Nat) {w0 : World} (hs : len ≤ 4096) (row : Row B a0 len w0) (hB : B ≤ w0.heap.size) :
    Calls Try.prog 43 #[.slice a0 len cap] w0 (DAPost w0) := by
  obtain ⟨w, hw, rw', ow, zw, r0, r1, r2, rf⟩ : ∃ w, w0.alloc (.cells #[.slice none 0 0, .slice none 0 0, .slice none 0 0] 64) = w ∧ Row B a0 len w ∧ Below w0.heap.size w0 w ∧ w.heap.size = w0.heap.size + 1 ∧ w.cell? ⟨w0.heap.size, 0, none⟩ = some (.slice none 0 0) ∧ w.cell? ⟨w0.heap.size, 1, none⟩ = some (.slice none 0 0) ∧ w.cell? ⟨w0.heap.size, 2, none⟩ = some (.slice none 0 0) ∧ ∀ i, w.frozen? ⟨w0.heap.size, i, none⟩ = false :=
    ⟨_, rfl, row.mono ((Below.refl B w0).alloc hB _), new_below _ _, by simp, by go_simp, by go_simp, by go_simp, fun i => by go_simp⟩
  go_enter Try.func43, Try.ntmps43
  go_upto_region 1 with (fail)
  clear hw
  go_wp2_with (first
    | (go_at_call 94; refine (drawAskR_any cap hs rw' (by omega)).mono ?_; rintro e w2 ⟨a1, c1, a2, c2, a3, c3, T, O, P, leaf, now, n, rfl, hq, hl, hb2⟩; have z2 := hb2.size; have HQ : Hid (QR w.heap.size w2 a1 T ∧ QR w.heap.size w2 a2 O ∧ QR w.heap.size w2 a3 P) := hq; clear hq; have q0 := (below_cells hb2 w0.heap.size 0 (by omega)).trans r0; have q1 := (below_cells hb2 w0.heap.size 1 (by omega)).trans r1; have q2 := (below_cells hb2 w0.heap.size 2 (by omega)).trans r2; have qf := fun i => (below_frozens hb2 w0.heap.size i (by omega)).trans (rf i)))
  refine bodyPost_ret (results_four rfl _ _ _ [.slice a1 T.length c1, .slice a2 O.length c2, .slice a3 P.length c3] rfl (set_three (u0 := .slice none 0 0) (u1 := .slice none 0 0) (u2 := .slice none 0 0) _ _ _ q0 q1 q2) Try.underlying64 rfl (by kernel_rfl)) rfl ?_
  have hO : Only w0.heap.size w2 (((w2.setCell ⟨w0.heap.size, 0, none⟩ (.slice a1 T.length c1)).setCell ⟨w0.heap.size, 1, none⟩ (.slice a2 O.length c2)).setCell ⟨w0.heap.size, 2, none⟩ (.slice a3 P.length c3)) := (((Only.refl w0.heap.size w2).setCell (p := ⟨w0.heap.size, 0, none⟩) rfl _).setCell (p := ⟨w0.heap.size, 1, none⟩) rfl _).setCell (p := ⟨w0.heap.size, 2, none⟩) rfl _
  have h2 : Below w0.heap.size w0 w2 := below_two ow hb2
  exact ⟨a1, c1, a2, c2, a3, c3, T, O, P, leaf, now, n, rfl, ⟨(HQ.out.1.only hO (by omega)).1, (HQ.out.2.1.only hO (by omega)).1, (HQ.out.2.2.only hO (by omega)).1⟩, hl, h2.trans (set3_below (Nat.le_refl _) (by omega) _ _ _)⟩
end Go.Proofs.Ytmophpbfaonfmac
