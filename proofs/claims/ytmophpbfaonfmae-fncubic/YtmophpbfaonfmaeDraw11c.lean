/- The draw of a Cc, a number and a time. -/
import Derived.Test.YtmophpbfaonfmaeDraw10c
import Derived.Test.YtmophpbfaonfmaeDraws1
namespace Go.Proofs.Ytmophpbfaonfmae
open Go.ChangeShapes Go.WideShapes Go.ChangeAt Go.RowKit
set_option maxRecDepth 100000
set_option linter.unusedVariables false
set_option linter.unusedSimpArgs false

section
variable {P : Program}
theorem results_three {fn : Func} {p u1 u2 : Tmp} {ty : TypeId} (h : fn.results = #[.cell p ty, .tmp u1, .tmp u2]) (tmps : Array Value) (w : World) (g : Nat) (cs : List Value) {d : TypeDesc}
    (hp : tmps.getD p undef = .pointer (some ⟨g, 0, none⟩)) (hc : ∀ j v, cs[j]? = some v → w.cell? ⟨g, j, none⟩ = some v)
    (hu : P.underlying ty = some d) (hd : (match d with | .struct _ | .array _ _ => true | _ => false) = true) (hi : (P.info? ty).map (·.size) = some cs.length) :
    (results fn tmps).run P w = .ok (.tuple #[.agg cs.toArray, tmps.getD u1 undef, tmps.getD u2 undef]) w := by
  have hp' : tmps[p]?.getD undef = .pointer (some ⟨g, 0, none⟩) := by simpa using hp
  have hl := loadVar_cells (P := P) w g 0 ty cs (fun j v hv => by rw [Nat.zero_add]; exact hc j v hv) hu hd hi
  simp [results, h, hp', asAddr, hl, Sem.run_bind, Result.andThen]
end
def CcNNPost (w : World) (e : Ending) (w' : World) : Prop := ∃ (c : C10) (n t : Int), e = .returned (.tuple #[.agg #[.int .i64 c.k, .int .i64 c.wn, .int .i64 c.th, .int .i64 c.fl, .int .i64 c.ac, .int .i64 c.la, .int .i64 c.og, .int .i64 c.st, .int .i64 c.fr, .bool c.sl], .int .i64 n, .int .i64 t]) ∧ Below w.heap.size w w'
set_option maxHeartbeats 4000000 in
theorem drawCubicAck_any {B : Nat} {a0 : Option Addr} {len : Nat} (cap : Nat) {w : World} (hs : len ≤ 4096) (row : Row B a0 len w) (hB : B ≤ w.heap.size) :
    Calls Try.prog 35 #[.slice a0 len cap] w (CcNNPost w) := by
  have f0 := ten_zero w 31
  go_enter Try.func35, Try.ntmps35
  go_wp2_with (first
    | (go_at_call 47; refine (new_any cap hs (row.mono ((Below.refl B w).alloc hB _)) (by simp; omega)).mono ?_; rintro e w1 ⟨b, rfl, hb, k1, hb1⟩; have hb' : w.heap.size < b := (by simp at hb; omega); have f1 := f0.only (Only.of_below (b := b) hb1) (by simp) (by omega); have hbw := start1 hb1; have z1 := hbw.size)
    | (go_at_call 48; refine (l10DrawAny_acc k1).mono ?_; rintro e w2 ⟨c, rfl, k2, o2⟩; have h1 := k1.hi; have f2 := f1.only o2 (by omega) (by omega); have zz := o2.size; have hbw := hbw.trans (o2.below (by omega) (by omega))))
  have hbs : b < w2.heap.size := k2.hi
  have n0 : w2.heap.size ≠ b := by omega
  have n2 : w2.heap.size ≠ w.heap.size := by omega
  have n3 : w.heap.size ≠ w2.heap.size := by omega
  (refine (l10DrawAck_acc (k2.mono (by go_grown)) (Only.refl _ _)).mono ?_; rintro e w3 ⟨x3, rfl, k3, o3⟩; have z3 := o3.size; (try simp at z3); have f3 := (f2.only (w' := (w2.alloc (.cells #[.int .i64 c.k, .int .i64 c.wn, .int .i64 c.th, .int .i64 c.fl, .int .i64 c.ac, .int .i64 c.la, .int .i64 c.og, .int .i64 c.st, .int .i64 c.fr, .bool c.sl] 31))) (Only.of_below (b := b) (by go_grown)) (by omega) (by omega)).only o3 (by simp; omega) (by omega); have g3 := (Ten.only (w := (w2.alloc (.cells #[.int .i64 c.k, .int .i64 c.wn, .int .i64 c.th, .int .i64 c.fl, .int .i64 c.ac, .int .i64 c.la, .int .i64 c.og, .int .i64 c.st, .int .i64 c.fr, .bool c.sl] 31))) (c := c) ⟨by go_simp, by go_simp, by go_simp, by go_simp, by go_simp, by go_simp, by go_simp, by go_simp, by go_simp, by go_simp, fun i => (by go_simp)⟩ o3 (by simp) n0); have hbw3 : Below w.heap.size w w3 := ((by go_grown : Below w.heap.size w (w2.alloc (.cells #[.int .i64 c.k, .int .i64 c.wn, .int .i64 c.th, .int .i64 c.fl, .int .i64 c.ac, .int .i64 c.la, .int .i64 c.og, .int .i64 c.st, .int .i64 c.fr, .bool c.sl] 31)))).trans (o3.below (by omega) (by simp; omega)))
  go_wp2
  obtain ⟨s0, s1, s2, s3, s4, s5, s6, s7, s8, s9⟩ := (And.intro g3.c0 (And.intro g3.c1 (And.intro g3.c2 (And.intro g3.c3 (And.intro g3.c4 (And.intro g3.c5 (And.intro g3.c6 (And.intro g3.c7 (And.intro g3.c8 (g3.c9))))))))))
  refine region_late (S := fun w' => w'.cell? ⟨w2.heap.size, 0, none⟩ = some (.int .i64 c.k) ∧ w'.cell? ⟨w2.heap.size, 1, none⟩ = some (.int .i64 c.wn) ∧ w'.cell? ⟨w2.heap.size, 2, none⟩ = some (.int .i64 c.th) ∧ w'.cell? ⟨w2.heap.size, 3, none⟩ = some (.int .i64 c.fl) ∧ w'.cell? ⟨w2.heap.size, 4, none⟩ = some (.int .i64 c.ac) ∧ w'.cell? ⟨w2.heap.size, 5, none⟩ = some (.int .i64 c.la) ∧ w'.cell? ⟨w2.heap.size, 6, none⟩ = some (.int .i64 c.og) ∧ w'.cell? ⟨w2.heap.size, 7, none⟩ = some (.int .i64 c.st) ∧ w'.cell? ⟨w2.heap.size, 8, none⟩ = some (.int .i64 c.fr) ∧ w'.cell? ⟨w2.heap.size, 9, none⟩ = some (.bool c.sl)) 6 (by kernel_rfl) (⟨g3.c0, g3.c1, g3.c2, g3.c3, g3.c4, g3.c5, g3.c6, g3.c7, g3.c8, g3.c9⟩) (fun hS => ?_)
  refine late_take (i := 0) (v := ?_) rfl (by kernel_rfl) (by kernel_rfl) (by kernel_rfl) (by kernel_rfl) (fun _ _ _ h => h) (Or.inl ⟨by rfl, ?_⟩) (by assumption) ?_
  rotate_left 1
  · (intro w' hSw; (try dsimp only at hSw); go_simp; try with_reducible rfl)
  try simp only [Act.put, List.setIfInBounds_toArray, List.set_cons_zero, List.set_cons_succ, List.getElem_toArray, List.getElem_cons_succ, List.getElem_cons_zero]
  refine late_take (i := 1) (v := ?_) rfl (by kernel_rfl) (by kernel_rfl) (by kernel_rfl) (by kernel_rfl) (fun _ _ _ h => h) (Or.inl ⟨by rfl, ?_⟩) (by assumption) ?_
  rotate_left 1
  · (intro w' hSw; (try dsimp only at hSw); go_simp; try with_reducible rfl)
  try simp only [Act.put, List.setIfInBounds_toArray, List.set_cons_zero, List.set_cons_succ, List.getElem_toArray, List.getElem_cons_succ, List.getElem_cons_zero]
  refine late_take (i := 2) (v := ?_) rfl (by kernel_rfl) (by kernel_rfl) (by kernel_rfl) (by kernel_rfl) (fun _ _ _ h => h) (Or.inl ⟨by rfl, ?_⟩) (by assumption) ?_
  rotate_left 1
  · (intro w' hSw; (try dsimp only at hSw); go_simp; try with_reducible rfl)
  try simp only [Act.put, List.setIfInBounds_toArray, List.set_cons_zero, List.set_cons_succ, List.getElem_toArray, List.getElem_cons_succ, List.getElem_cons_zero]
  refine late_one (i := 3) (by kernel_rfl) rfl (fun K hK => ?_)
  go_simp
  (refine (drawTime_acc (k3.mono (Below.drew (Below.refl _ _))) (Only.refl _ _)).mono ?_; rintro e w4 ⟨x4, rfl, _, k4, o4⟩; have z4 := o4.size; (try simp at z4); have f4 := (f3.only (w' := w3.drew) (Only.of_below (b := b) (by go_grown)) (by omega) (by omega)).only o4 (by simp; omega) (by omega); have g4 := (g3.only (w' := w3.drew) (Only.of_below (b := b) (by go_grown)) (by omega) n0).only o4 (by simp; omega) n0; have hS4 := And.intro g4.c0 (And.intro g4.c1 (And.intro g4.c2 (And.intro g4.c3 (And.intro g4.c4 (And.intro g4.c5 (And.intro g4.c6 (And.intro g4.c7 (And.intro g4.c8 (g4.c9))))))))); have q0 := f4.c0; have q1 := f4.c1; have q2 := f4.c2; have q3 := f4.c3; have q4 := f4.c4; have q5 := f4.c5; have q6 := f4.c6; have q7 := f4.c7; have q8 := f4.c8; have q9 := f4.c9; have qf := f4.fr; have hbw4 : Below w.heap.size w w4 := (hbw3.trans ((by go_grown : Below w.heap.size w3 w3.drew))).trans (o4.below (by omega) (by simp; omega)))
  refine hK.out _ _ (by assumption) (fun _ => ?_)
  try simp only [Act.put, List.setIfInBounds_toArray, List.set_cons_zero, List.set_cons_succ, List.getElem_toArray, List.getElem_cons_succ, List.getElem_cons_zero]
  refine late_one (i := 4) (by kernel_rfl) rfl (fun K hK => ?_)
  go_simp
  have g5 := g4.only (only_put w4 w.heap.size c) (by omega) n2
  have hSp := And.intro g5.c0 (And.intro g5.c1 (And.intro g5.c2 (And.intro g5.c3 (And.intro g5.c4 (And.intro g5.c5 (And.intro g5.c6 (And.intro g5.c7 (And.intro g5.c8 (g5.c9)))))))))
  refine hK.out _ _ (by assumption) (fun hS => ?_)
  try simp only [Act.put, List.setIfInBounds_toArray, List.set_cons_zero, List.set_cons_succ, List.getElem_toArray, List.getElem_cons_succ, List.getElem_cons_zero]
  refine late_take (i := 5) (v := ?_) rfl (by kernel_rfl) (by kernel_rfl) (by kernel_rfl) (by kernel_rfl) (fun _ _ _ h => h) (Or.inl ⟨by rfl, ?_⟩) (by assumption) ?_
  rotate_left 1
  · (intro w' hSw; (try dsimp only at hSw); go_simp; try with_reducible rfl)
  try simp only [Act.put, List.setIfInBounds_toArray, List.set_cons_zero, List.set_cons_succ, List.getElem_toArray, List.getElem_cons_succ, List.getElem_cons_zero]
  refine late_last (by kernel_rfl) rfl (by kernel_rfl) (fun K hK => ?_)
  go_simp
  refine hK.out _ _ ?_
  try simp only [Act.put, List.setIfInBounds_toArray, List.set_cons_zero, List.set_cons_succ, List.getElem_toArray, List.getElem_cons_succ, List.getElem_cons_zero]
  go_wp2
  refine bodyPost_ret (results_three rfl _ _ _ [.int .i64 c.k, .int .i64 c.wn, .int .i64 c.th, .int .i64 c.fl, .int .i64 c.ac, .int .i64 c.la, .int .i64 c.og, .int .i64 c.st, .int .i64 c.fr, .bool c.sl] rfl (ten_cells (f4.put c)) Try.underlying31 rfl (by kernel_rfl)) rfl ?_
  exact ⟨c, x3, x4, rfl, hbw4.trans ((only_put w4 w.heap.size c).below (Nat.le_refl _) (by omega))⟩
end Go.Proofs.Ytmophpbfaonfmae
