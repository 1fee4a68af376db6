/- The draws of chapter 10. -/
import Derived.Test.YtdgefdjgpneanaeDraw10c
namespace Go.Proofs.Ytdgefdjgpneanae
open Go.ChangeShapes Go.WideShapes Go.ChangeAt Go.RowKit
set_option maxRecDepth 100000
set_option linter.unusedVariables false
set_option linter.unusedSimpArgs false

def CcNPost (w : World) (e : Ending) (w' : World) : Prop := ∃ (c : C10) (n : Int), e = .returned (.tuple #[.agg #[.int .i64 c.k, .int .i64 c.wn, .int .i64 c.th, .int .i64 c.fl, .int .i64 c.ac, .int .i64 c.la, .int .i64 c.og, .int .i64 c.st, .int .i64 c.fr, .bool c.sl], .int .i64 n]) ∧ Below w.heap.size w w'
set_option maxHeartbeats 400000 in
theorem drawNewCc_any {B : Nat} {a0 : Option Addr} {len : Nat} (cap : Nat) {w : World} (hs : len ≤ 4096) (row : Row B a0 len w) (hB : B ≤ w.heap.size) :
    Calls Try.prog 24 #[.slice a0 len cap] w fun e w' => ∃ x : Int, e = .returned (.int .i64 x) ∧ Below w.heap.size w w' := by
  go_enter Try.func24, Try.ntmps24
  go_wp2_with (first
    | (go_at_call 34; refine (new_any cap hs row hB).mono ?_; rintro e w1 ⟨b, rfl, hb, k1, hb1⟩; have z1 := hb1.size)
    | (go_at_call 50; refine (from_acc _ _ k1 (Only.refl _ _) (by omega) (by omega) (by omega)).mono ?_; rintro e w2 ⟨x, rfl, hx, k2, o2⟩))
  go_ret
  exact ⟨_, rfl, hb1.trans (o2.below hb z1)⟩
set_option maxHeartbeats 4000000 in
theorem drawSent_any {B : Nat} {a0 : Option Addr} {len : Nat} (cap : Nat) {w : World} (hs : len ≤ 4096) (row : Row B a0 len w) (hB : B ≤ w.heap.size) :
    Calls Try.prog 21 #[.slice a0 len cap] w (CcNPost w) := by
  have f0 := ten_zero w 31
  go_enter Try.func21, Try.ntmps21
  go_wp2_with (first
    | (go_at_call 34; refine (new_any cap hs (row.mono ((Below.refl B w).alloc hB _)) (by simp; omega)).mono ?_; rintro e w1 ⟨b, rfl, hb, k1, hb1⟩; have hb' : w.heap.size < b := (by simp at hb; omega); have f1 := f0.only (Only.of_below (b := b) hb1) (by simp) (by omega); have hbw := start1 hb1; have z1 := hbw.size)
    | (go_at_call 35; refine (l10DrawAny_acc k1).mono ?_; rintro e w2 ⟨c, rfl, k2, o2⟩; have h1 := k1.hi; have f2 := f1.only o2 (by omega) (by omega); have zz := o2.size; have hbw := hbw.trans (o2.below (by omega) (by omega))))
  have hbs : b < w2.heap.size := k2.hi
  have n0 : w2.heap.size ≠ b := by omega
  have n2 : w2.heap.size ≠ w.heap.size := by omega
  have n3 : w.heap.size ≠ w2.heap.size := by omega
  refine region_late (S := fun w' => w'.cell? ⟨w2.heap.size, 0, none⟩ = some (.int .i64 c.k) ∧ w'.cell? ⟨w2.heap.size, 1, none⟩ = some (.int .i64 c.wn) ∧ w'.cell? ⟨w2.heap.size, 2, none⟩ = some (.int .i64 c.th) ∧ w'.cell? ⟨w2.heap.size, 3, none⟩ = some (.int .i64 c.fl) ∧ w'.cell? ⟨w2.heap.size, 4, none⟩ = some (.int .i64 c.ac) ∧ w'.cell? ⟨w2.heap.size, 5, none⟩ = some (.int .i64 c.la) ∧ w'.cell? ⟨w2.heap.size, 6, none⟩ = some (.int .i64 c.og) ∧ w'.cell? ⟨w2.heap.size, 7, none⟩ = some (.int .i64 c.st) ∧ w'.cell? ⟨w2.heap.size, 8, none⟩ = some (.int .i64 c.fr) ∧ w'.cell? ⟨w2.heap.size, 9, none⟩ = some (.bool c.sl)) 4 (by kernel_rfl) (⟨by go_simp, by go_simp, by go_simp, by go_simp, by go_simp, by go_simp, by go_simp, by go_simp, by go_simp, by go_simp⟩) (fun hS => ?_)
  refine late_take (i := 0) (v := ?_) rfl (by kernel_rfl) (by kernel_rfl) (by kernel_rfl) (by kernel_rfl) (fun _ _ _ h => h) (Or.inl ⟨by rfl, ?_⟩) (by assumption) ?_
  rotate_left 1
  · (intro w' hSw; (try dsimp only at hSw); go_simp; try with_reducible rfl)
  try simp only [Act.put, List.setIfInBounds_toArray, List.set_cons_zero, List.set_cons_succ, List.getElem_toArray, List.getElem_cons_succ, List.getElem_cons_zero]
  refine late_take (i := 1) (v := ?_) rfl (by kernel_rfl) (by kernel_rfl) (by kernel_rfl) (by kernel_rfl) (fun _ _ _ h => h) (Or.inl ⟨by rfl, ?_⟩) (by assumption) ?_
  rotate_left 1
  · (intro w' hSw; (try dsimp only at hSw); go_simp; try with_reducible rfl)
  try simp only [Act.put, List.setIfInBounds_toArray, List.set_cons_zero, List.set_cons_succ, List.getElem_toArray, List.getElem_cons_succ, List.getElem_cons_zero]
  refine late_one (i := 2) (by kernel_rfl) rfl (fun K hK => ?_)
  go_simp
  (refine (drawSize10_acc (k2.mono (by go_grown)) (Only.refl _ _)).mono ?_; rintro e w3 ⟨x3, rfl, k3, o3⟩; have z3 := o3.size; (try simp at z3); have f3 := (f2.only (w' := (w2.alloc (.cells #[.int .i64 c.k, .int .i64 c.wn, .int .i64 c.th, .int .i64 c.fl, .int .i64 c.ac, .int .i64 c.la, .int .i64 c.og, .int .i64 c.st, .int .i64 c.fr, .bool c.sl] 31)).drew) (Only.of_below (b := b) (by go_grown)) (by omega) (by omega)).only o3 (by simp; omega) (by omega); have g3 := (Ten.only (w := (w2.alloc (.cells #[.int .i64 c.k, .int .i64 c.wn, .int .i64 c.th, .int .i64 c.fl, .int .i64 c.ac, .int .i64 c.la, .int .i64 c.og, .int .i64 c.st, .int .i64 c.fr, .bool c.sl] 31)).drew) (c := c) ⟨by go_simp, by go_simp, by go_simp, by go_simp, by go_simp, by go_simp, by go_simp, by go_simp, by go_simp, by go_simp, fun i => (by go_simp)⟩ o3 (by simp) n0); have hS3 := And.intro g3.c0 (And.intro g3.c1 (And.intro g3.c2 (And.intro g3.c3 (And.intro g3.c4 (And.intro g3.c5 (And.intro g3.c6 (And.intro g3.c7 (And.intro g3.c8 (g3.c9))))))))); have q0 := f3.c0; have q1 := f3.c1; have q2 := f3.c2; have q3 := f3.c3; have q4 := f3.c4; have q5 := f3.c5; have q6 := f3.c6; have q7 := f3.c7; have q8 := f3.c8; have q9 := f3.c9; have qf := f3.fr; have hbw3 : Below w.heap.size w w3 := ((by go_grown : Below w.heap.size w (w2.alloc (.cells #[.int .i64 c.k, .int .i64 c.wn, .int .i64 c.th, .int .i64 c.fl, .int .i64 c.ac, .int .i64 c.la, .int .i64 c.og, .int .i64 c.st, .int .i64 c.fr, .bool c.sl] 31)).drew)).trans (o3.below (by omega) (by simp; omega)))
  refine hK.out _ _ (by assumption) (fun _ => ?_)
  try simp only [Act.put, List.setIfInBounds_toArray, List.set_cons_zero, List.set_cons_succ, List.getElem_toArray, List.getElem_cons_succ, List.getElem_cons_zero]
  refine late_one (i := 3) (by kernel_rfl) rfl (fun K hK => ?_)
  go_simp
  have g4 := g3.only (only_put w3 w.heap.size c) (by omega) n2
  have hSp := And.intro g4.c0 (And.intro g4.c1 (And.intro g4.c2 (And.intro g4.c3 (And.intro g4.c4 (And.intro g4.c5 (And.intro g4.c6 (And.intro g4.c7 (And.intro g4.c8 (g4.c9)))))))))
  refine hK.out _ _ (by assumption) (fun hS => ?_)
  try simp only [Act.put, List.setIfInBounds_toArray, List.set_cons_zero, List.set_cons_succ, List.getElem_toArray, List.getElem_cons_succ, List.getElem_cons_zero]
  refine late_last (by kernel_rfl) rfl (by kernel_rfl) (fun K hK => ?_)
  go_simp
  refine hK.out _ _ ?_
  try simp only [Act.put, List.setIfInBounds_toArray, List.set_cons_zero, List.set_cons_succ, List.getElem_toArray, List.getElem_cons_succ, List.getElem_cons_zero]
  go_wp2
  refine bodyPost_ret (results_two rfl _ _ _ [.int .i64 c.k, .int .i64 c.wn, .int .i64 c.th, .int .i64 c.fl, .int .i64 c.ac, .int .i64 c.la, .int .i64 c.og, .int .i64 c.st, .int .i64 c.fr, .bool c.sl] rfl (ten_cells (f3.put c)) Try.underlying31 rfl (by kernel_rfl)) rfl ?_
  exact ⟨c, x3, rfl, hbw3.trans ((only_put w3 w.heap.size c).below (Nat.le_refl _) (by omega))⟩
set_option maxHeartbeats 4000000 in
theorem drawRenoAck_any {B : Nat} {a0 : Option Addr} {len : Nat} (cap : Nat) {w : World} (hs : len ≤ 4096) (row : Row B a0 len w) (hB : B ≤ w.heap.size) :
    Calls Try.prog 12 #[.slice a0 len cap] w (CcNPost w) := by
  have f0 := ten_zero w 31
  go_enter Try.func12, Try.ntmps12
  go_wp2_with (first
    | (go_at_call 34; refine (new_any cap hs (row.mono ((Below.refl B w).alloc hB _)) (by simp; omega)).mono ?_; rintro e w1 ⟨b, rfl, hb, k1, hb1⟩; have hb' : w.heap.size < b := (by simp at hb; omega); have f1 := f0.only (Only.of_below (b := b) hb1) (by simp) (by omega); have hbw := start1 hb1; have z1 := hbw.size)
    | (go_at_call 35; refine (l10DrawAny_acc k1).mono ?_; rintro e w2 ⟨c, rfl, k2, o2⟩; have h1 := k1.hi; have f2 := f1.only o2 (by omega) (by omega); have zz := o2.size; have hbw := hbw.trans (o2.below (by omega) (by omega))))
  have hbs : b < w2.heap.size := k2.hi
  have n0 : w2.heap.size ≠ b := by omega
  have n2 : w2.heap.size ≠ w.heap.size := by omega
  have n3 : w.heap.size ≠ w2.heap.size := by omega
  refine region_late (S := fun w' => w'.cell? ⟨w2.heap.size, 0, none⟩ = some (.int .i64 c.k) ∧ w'.cell? ⟨w2.heap.size, 1, none⟩ = some (.int .i64 c.wn) ∧ w'.cell? ⟨w2.heap.size, 2, none⟩ = some (.int .i64 c.th) ∧ w'.cell? ⟨w2.heap.size, 3, none⟩ = some (.int .i64 c.fl) ∧ w'.cell? ⟨w2.heap.size, 4, none⟩ = some (.int .i64 c.ac) ∧ w'.cell? ⟨w2.heap.size, 5, none⟩ = some (.int .i64 c.la) ∧ w'.cell? ⟨w2.heap.size, 6, none⟩ = some (.int .i64 c.og) ∧ w'.cell? ⟨w2.heap.size, 7, none⟩ = some (.int .i64 c.st) ∧ w'.cell? ⟨w2.heap.size, 8, none⟩ = some (.int .i64 c.fr) ∧ w'.cell? ⟨w2.heap.size, 9, none⟩ = some (.bool c.sl)) 4 (by kernel_rfl) (⟨by go_simp, by go_simp, by go_simp, by go_simp, by go_simp, by go_simp, by go_simp, by go_simp, by go_simp, by go_simp⟩) (fun hS => ?_)
  refine late_take (i := 0) (v := ?_) rfl (by kernel_rfl) (by kernel_rfl) (by kernel_rfl) (by kernel_rfl) (fun _ _ _ h => h) (Or.inl ⟨by rfl, ?_⟩) (by assumption) ?_
  rotate_left 1
  · (intro w' hSw; (try dsimp only at hSw); go_simp; try with_reducible rfl)
  try simp only [Act.put, List.setIfInBounds_toArray, List.set_cons_zero, List.set_cons_succ, List.getElem_toArray, List.getElem_cons_succ, List.getElem_cons_zero]
  refine late_take (i := 1) (v := ?_) rfl (by kernel_rfl) (by kernel_rfl) (by kernel_rfl) (by kernel_rfl) (fun _ _ _ h => h) (Or.inl ⟨by rfl, ?_⟩) (by assumption) ?_
  rotate_left 1
  · (intro w' hSw; (try dsimp only at hSw); go_simp; try with_reducible rfl)
  try simp only [Act.put, List.setIfInBounds_toArray, List.set_cons_zero, List.set_cons_succ, List.getElem_toArray, List.getElem_cons_succ, List.getElem_cons_zero]
  refine late_one (i := 2) (by kernel_rfl) rfl (fun K hK => ?_)
  go_simp
  (refine (l10DrawAck_acc (k2.mono (by go_grown)) (Only.refl _ _)).mono ?_; rintro e w3 ⟨x3, rfl, k3, o3⟩; have z3 := o3.size; (try simp at z3); have f3 := (f2.only (w' := (w2.alloc (.cells #[.int .i64 c.k, .int .i64 c.wn, .int .i64 c.th, .int .i64 c.fl, .int .i64 c.ac, .int .i64 c.la, .int .i64 c.og, .int .i64 c.st, .int .i64 c.fr, .bool c.sl] 31)).drew) (Only.of_below (b := b) (by go_grown)) (by omega) (by omega)).only o3 (by simp; omega) (by omega); have g3 := (Ten.only (w := (w2.alloc (.cells #[.int .i64 c.k, .int .i64 c.wn, .int .i64 c.th, .int .i64 c.fl, .int .i64 c.ac, .int .i64 c.la, .int .i64 c.og, .int .i64 c.st, .int .i64 c.fr, .bool c.sl] 31)).drew) (c := c) ⟨by go_simp, by go_simp, by go_simp, by go_simp, by go_simp, by go_simp, by go_simp, by go_simp, by go_simp, by go_simp, fun i => (by go_simp)⟩ o3 (by simp) n0); have hS3 := And.intro g3.c0 (And.intro g3.c1 (And.intro g3.c2 (And.intro g3.c3 (And.intro g3.c4 (And.intro g3.c5 (And.intro g3.c6 (And.intro g3.c7 (And.intro g3.c8 (g3.c9))))))))); have q0 := f3.c0; have q1 := f3.c1; have q2 := f3.c2; have q3 := f3.c3; have q4 := f3.c4; have q5 := f3.c5; have q6 := f3.c6; have q7 := f3.c7; have q8 := f3.c8; have q9 := f3.c9; have qf := f3.fr; have hbw3 : Below w.heap.size w w3 := ((by go_grown : Below w.heap.size w (w2.alloc (.cells #[.int .i64 c.k, .int .i64 c.wn, .int .i64 c.th, .int .i64 c.fl, .int .i64 c.ac, .int .i64 c.la, .int .i64 c.og, .int .i64 c.st, .int .i64 c.fr, .bool c.sl] 31)).drew)).trans (o3.below (by omega) (by simp; omega)))
  refine hK.out _ _ (by assumption) (fun _ => ?_)
  try simp only [Act.put, List.setIfInBounds_toArray, List.set_cons_zero, List.set_cons_succ, List.getElem_toArray, List.getElem_cons_succ, List.getElem_cons_zero]
  refine late_one (i := 3) (by kernel_rfl) rfl (fun K hK => ?_)
  go_simp
  have g4 := g3.only (only_put w3 w.heap.size c) (by omega) n2
  have hSp := And.intro g4.c0 (And.intro g4.c1 (And.intro g4.c2 (And.intro g4.c3 (And.intro g4.c4 (And.intro g4.c5 (And.intro g4.c6 (And.intro g4.c7 (And.intro g4.c8 (g4.c9)))))))))
  refine hK.out _ _ (by assumption) (fun hS => ?_)
  try simp only [Act.put, List.setIfInBounds_toArray, List.set_cons_zero, List.set_cons_succ, List.getElem_toArray, List.getElem_cons_succ, List.getElem_cons_zero]
  refine late_last (by kernel_rfl) rfl (by kernel_rfl) (fun K hK => ?_)
  go_simp
  refine hK.out _ _ ?_
  try simp only [Act.put, List.setIfInBounds_toArray, List.set_cons_zero, List.set_cons_succ, List.getElem_toArray, List.getElem_cons_succ, List.getElem_cons_zero]
  go_wp2
  refine bodyPost_ret (results_two rfl _ _ _ [.int .i64 c.k, .int .i64 c.wn, .int .i64 c.th, .int .i64 c.fl, .int .i64 c.ac, .int .i64 c.la, .int .i64 c.og, .int .i64 c.st, .int .i64 c.fr, .bool c.sl] rfl (ten_cells (f3.put c)) Try.underlying31 rfl (by kernel_rfl)) rfl ?_
  exact ⟨c, x3, rfl, hbw3.trans ((only_put w3 w.heap.size c).below (Nat.le_refl _) (by omega))⟩
end Go.Proofs.Ytdgefdjgpneanae
