/- What impl's Flow answers: with its quantum, and without its first size. -/
import Derived.Test.YtdgefdjgpneanadFlwPut
import Derived.Test.YtdgefdjgpneanadTurnMath
import Derived.Test.YtdgefdjgpneanadLate
import Derived.Test.YtdgefdjgpneanadGrpC
import Derived.Deep.RegionHeld3
import Derived.Deep.DeepCutAuto
namespace Go.Proofs.Ytdgefdjgpneanad
open Go.ChangeShapes Go.WideShapes Go.ChangeAt Go.RowKit
set_option maxRecDepth 100000
set_option linter.unusedVariables false
set_option linter.unusedSimpArgs false

theorem cells_tri {w : World} {g : Nat} {a b c : Value} (h0 : w.cell? ⟨g, 0, none⟩ = some a) (h1 : w.cell? ⟨g, 1, none⟩ = some b) (h2 : w.cell? ⟨g, 2, none⟩ = some c) : ∀ j v, [a, b, c][j]? = some v → w.cell? ⟨g, j, none⟩ = some v := by
  intro j v hv
  match j, hv with
  | 0, hv => obtain rfl : a = v := by simpa using hv
             exact h0
  | 1, hv => obtain rfl : b = v := by simpa using hv
             exact h1
  | 2, hv => obtain rfl : c = v := by simpa using hv
             exact h2
theorem inTurn_any (q d : Int) (u : Option Addr) (n c : Nat) (fresh : Bool) (w : World) (hq0 : 1500 ≤ q) (hq1 : q ≤ 1000000000) (hd0 : 0 ≤ d) (hd1 : d ≤ q + 1500) :
    Calls Try.prog 123 #[.agg #[.int .i64 q, .int .i64 d, .slice u n c], .bool fresh] w fun e w' => e = .returned (.agg #[.int .i64 q, .int .i64 (if fresh = true then d + q else d), .slice u n c]) ∧ Below w.heap.size w w' := by
  cases fresh
  · rw [if_neg (by decide)]
    go_enter Try.func123, Try.ntmps123
    go_wp2
    refine bodyPost_ret (results_one rfl _ _ _ [.int .i64 q, .int .i64 d, .slice u n c] rfl (cells_tri (by go_simp) (by go_simp) (by go_simp)) Try.underlying61 rfl (by kernel_rfl)) rfl ?_
    exact ⟨rfl, by go_grown⟩
  · rw [if_pos rfl]
    go_enter Try.func123, Try.ntmps123
    go_wp2
    refine bodyPost_ret (results_one rfl _ _ _ [.int .i64 q, .int .i64 (d + q), .slice u n c] rfl (cells_tri (by go_simp) (by go_simp) (by go_simp)) Try.underlying61 rfl (by kernel_rfl)) rfl ?_
    exact ⟨rfl, by go_grown⟩
/-- A flow without its first size. -/
def OutPost (w : World) (q r : Int) (g off n : Nat) (e : Ending) (w' : World) : Prop := ∃ u c, e = .returned (.agg #[.int .i64 q, .int .i64 r, .slice u n c]) ∧ n ≤ c ∧ (n = 0 ∨ u = some ⟨g, off + 1, none⟩) ∧ Below w.heap.size w w'
set_option maxHeartbeats 2000000 in
theorem withoutFirst_any {w : World} {g off n cap : Nat} (q d x : Int) (hx : w.cell? ⟨g, off, none⟩ = some (.int .i64 x)) (hg : g < w.heap.size) (hn : n ≤ 100) (hx0 : 1 ≤ x) (hx1 : x ≤ d) (hd : d ≤ 2000003000) (hcap : n ≤ cap) :
    Calls Try.prog 124 #[.agg #[.int .i64 q, .int .i64 d, .slice (some ⟨g, off, none⟩) (n + 1) (cap + 1)]] w (OutPost w q (if n = 0 then 0 else d - x) g off n) := by
  have hni : (n : Int) ≤ 100 := by omega
  obtain ⟨r, hr⟩ : ∃ r : Int, (if n = 0 then 0 else d - x) = r := ⟨_, rfl⟩
  have HR : Hid ((if n = 0 then 0 else d - x) = r) := hr
  rw [hr]
  clear hr
  go_enter Try.func124, Try.ntmps124
  go_upto_region 1 with (fail)
  obtain ⟨v, hv⟩ : ∃ v, v = (w.alloc (.cells #[.int .i64 q, .int .i64 d, .slice (some ⟨g, off, none⟩) (n + 1) (cap + 1)] 61)).alloc (.cells #[.int .i64 0, .int .i64 0, .slice none 0 0] 61) := ⟨_, rfl⟩
  rw [← hv]
  have KV : Hid (Kept w [(w.heap.size, 0, .int .i64 q), (w.heap.size, 1, .int .i64 d), (w.heap.size, 2, .slice (some ⟨g, off, none⟩) (n + 1) (cap + 1)), (w.heap.size + 1, 0, .int .i64 0), (w.heap.size + 1, 1, .int .i64 0), (w.heap.size + 1, 2, .slice none 0 0)] [w.heap.size, w.heap.size + 1] v) := by
    rw [hv]
    refine ⟨⟨⟨by simp <;> omega, by go_simp⟩, ⟨by simp <;> omega, by go_simp⟩, ⟨by simp <;> omega, by go_simp⟩, ⟨by simp, by go_simp⟩, ⟨by simp, by go_simp⟩, ⟨by simp, by go_simp⟩, trivial⟩, fun b hb => ?_, by go_grown⟩
    simp only [List.mem_cons, List.not_mem_nil, or_false] at hb
    rcases hb with rfl | rfl
    · exact ⟨by simp <;> omega, fun o => by go_simp⟩
    · exact ⟨by simp, fun o => by go_simp⟩
  have hx2 : v.drew.cell? ⟨g, off, none⟩ = some (.int .i64 x) := (KV.out.drew.hb.cell (p := ⟨g, off, none⟩) hg).trans hx
  clear hv
  have ⟨⟨z0, k0⟩, ⟨z1, k1⟩, ⟨z2, k2⟩, ⟨z3, k3⟩, ⟨z4, k4⟩, ⟨z5, k5⟩, _⟩ := KV.out.drew.cells
  have fr0 := (KV.out.drew.free w.heap.size (by simp)).2
  have fr1 := (KV.out.drew.free (w.heap.size + 1) (by simp)).2
  have hwd : IntKind.i64.wrap (d - x) = d - x := by simp only [IntKind.wrap_i64, wrap64]; omega
  refine region_late (S := fun w' => w'.cell? ⟨w.heap.size, 1, none⟩ = some (.int .i64 d) ∧ w'.cell? ⟨w.heap.size, 2, none⟩ = some (.slice (some ⟨g, off, none⟩) (n + 1) (cap + 1)) ∧ w'.cell? ⟨g, off, none⟩ = some (.int .i64 x)) 8 (by kernel_rfl) (⟨k1, k2, hx2⟩) (fun hS => ?_)
  refine late_take (i := 0) (v := ?_) rfl (by kernel_rfl) (by kernel_rfl) (by kernel_rfl) (by kernel_rfl) (fun _ _ _ h => h) (Or.inl ⟨by rfl, ?_⟩) (by assumption) ?_
  rotate_left 1
  · (intro w' hSw; (try dsimp only at hSw); go_simp; try with_reducible rfl)
  try simp only [Act.put, List.setIfInBounds_toArray, List.set_cons_zero, List.set_cons_succ, List.getElem_toArray, List.getElem_cons_succ, List.getElem_cons_zero]
  refine late_take (i := 1) (v := ?_) rfl (by kernel_rfl) (by kernel_rfl) (by kernel_rfl) (by kernel_rfl) (fun _ _ _ h => h) (Or.inl ⟨by rfl, ?_⟩) (by assumption) ?_
  rotate_left 1
  · (intro w' hSw; (try dsimp only at hSw); go_simp; try with_reducible rfl)
  try simp only [Act.put, List.setIfInBounds_toArray, List.set_cons_zero, List.set_cons_succ, List.getElem_toArray, List.getElem_cons_succ, List.getElem_cons_zero]
  refine late_take (i := 2) (v := ?_) rfl (by kernel_rfl) (by kernel_rfl) (by kernel_rfl) (by kernel_rfl) (fun _ _ _ h => h) (Or.inl ⟨by rfl, ?_⟩) (by assumption) ?_
  rotate_left 1
  · (intro w' hSw; (try dsimp only at hSw); go_simp; try with_reducible rfl)
  try simp only [Act.put, List.setIfInBounds_toArray, List.set_cons_zero, List.set_cons_succ, List.getElem_toArray, List.getElem_cons_succ, List.getElem_cons_zero]
  refine late_take (i := 3) (v := ?_) rfl (by kernel_rfl) (by kernel_rfl) (by kernel_rfl) (by kernel_rfl) (fun _ _ _ h => h) (Or.inl ⟨by rfl, ?_⟩) (by assumption) ?_
  rotate_left 1
  · (intro w' hSw; (try dsimp only at hSw); go_simp; try with_reducible rfl)
  try simp only [Act.put, List.setIfInBounds_toArray, List.set_cons_zero, List.set_cons_succ, List.getElem_toArray, List.getElem_cons_succ, List.getElem_cons_zero]
  refine late_take (i := 4) (v := ?_) rfl (by kernel_rfl) (by kernel_rfl) (by kernel_rfl) (by kernel_rfl) (fun _ _ _ h => h) (Or.inl ⟨by rfl, ?_⟩) (by assumption) ?_
  rotate_left 1
  · (intro w' hSw; (try dsimp only at hSw); go_simp; try with_reducible rfl)
  try simp only [Act.put, List.setIfInBounds_toArray, List.set_cons_zero, List.set_cons_succ, List.getElem_toArray, List.getElem_cons_succ, List.getElem_cons_zero]
  refine late_take (i := 5) (v := ?_) rfl (by kernel_rfl) (by kernel_rfl) (by kernel_rfl) (by kernel_rfl) (fun _ _ _ h => h) (Or.inl ⟨by rfl, ?_⟩) (by assumption) ?_
  rotate_left 1
  · (intro w' hSw; (try dsimp only at hSw); go_simp; try with_reducible rfl)
  try simp only [Act.put, List.setIfInBounds_toArray, List.set_cons_zero, List.set_cons_succ, List.getElem_toArray, List.getElem_cons_succ, List.getElem_cons_zero]
  refine late_take (i := 6) (v := ?_) rfl (by kernel_rfl) (by kernel_rfl) (by kernel_rfl) (by kernel_rfl) (fun _ _ _ h => h) (Or.inl ⟨by rfl, ?_⟩) (by assumption) ?_
  rotate_left 1
  · (intro w' hSw; (try dsimp only at hSw); go_simp; try with_reducible rfl)
  try simp only [Act.put, List.setIfInBounds_toArray, List.set_cons_zero, List.set_cons_succ, List.getElem_toArray, List.getElem_cons_succ, List.getElem_cons_zero]
  refine late_take (i := 7) (v := ?_) rfl (by kernel_rfl) (by kernel_rfl) (by kernel_rfl) (by kernel_rfl) (fun _ _ _ h => h) (Or.inl ⟨by rfl, ?_⟩) (by assumption) ?_
  rotate_left 1
  · (intro w' hSw; (try dsimp only at hSw); go_simp; try with_reducible rfl)
  try simp only [Act.put, List.setIfInBounds_toArray, List.set_cons_zero, List.set_cons_succ, List.getElem_toArray, List.getElem_cons_succ, List.getElem_cons_zero]
  refine late_last (by kernel_rfl) rfl (by kernel_rfl) (fun K hK => ?_)
  go_simp
  refine hK.out _ _ ?_
  try simp only [Act.put, List.setIfInBounds_toArray, List.set_cons_zero, List.set_cons_succ, List.getElem_toArray, List.getElem_cons_succ, List.getElem_cons_zero]
  obtain ⟨w1, hw1⟩ : ∃ w1, w1 = (v.setCell ⟨w.heap.size, 1, none⟩ (.int .i64 (d - x))).drew := ⟨_, rfl⟩
  rw [← hw1]
  have K1 : Hid (Kept w [(w.heap.size, 0, .int .i64 q), (w.heap.size, 1, .int .i64 (d - x)), (w.heap.size, 2, .slice (some ⟨g, off, none⟩) (n + 1) (cap + 1)), (w.heap.size + 1, 0, .int .i64 0), (w.heap.size + 1, 1, .int .i64 0), (w.heap.size + 1, 2, .slice none 0 0)] [w.heap.size, w.heap.size + 1] w1) := by
    have kp := (KV.out.put w.heap.size 1 (.int .i64 (d - x)) (Nat.le_refl _)).drew
    rw [← hw1] at kp
    refine ⟨?_, kp.free, kp.hb⟩
    have ⟨e0, e1, e2, e3, e4, e5, _⟩ := kp.cells
    simp at e0 e1 e2 e3 e4 e5
    exact ⟨e0, e1, e2, e3, e4, e5, trivial⟩
  clear hw1 KV k0 k1 k2 k3 k4 k5 z0 z1 z2 z3 z4 z5 fr0 fr1 hx2
  have ⟨⟨z0, k0⟩, ⟨z1, k1⟩, ⟨z2, k2⟩, ⟨z3, k3⟩, ⟨z4, k4⟩, ⟨z5, k5⟩, _⟩ := K1.out.cells
  have fr0 := (K1.out.free w.heap.size (by simp)).2
  have fr1 := (K1.out.free (w.heap.size + 1) (by simp)).2
  have hbk := K1.out.hb
  by_cases hn0 : n = 0
  · subst hn0
    obtain rfl : r = 0 := HR.out.symm.trans (if_pos rfl)
    cases cap with
    | zero =>
      go_wp2
      refine bodyPost_ret (results_one rfl _ _ _ [.int .i64 q, .int .i64 0, .slice (some ⟨g, off, none⟩) 0 0] rfl (cells_tri (by go_simp) (by go_simp) (by go_simp)) Try.underlying61 rfl (by kernel_rfl)) rfl ?_
      exact ⟨_, _, rfl, Nat.zero_le _, .inl rfl, by first | go_grown | exact (((((hbk.setCell (by simp) _).setCell (by simp) _).setCell (by simp) _).setCell (by simp) _)).setCell (by simp) _⟩
    | succ cap =>
      go_wp2
      refine bodyPost_ret (results_one rfl _ _ _ [.int .i64 q, .int .i64 0, .slice (some ⟨g, off + 1, none⟩) 0 (cap + 1)] rfl (cells_tri (by go_simp) (by go_simp) (by go_simp)) Try.underlying61 rfl (by kernel_rfl)) rfl ?_
      exact ⟨_, _, rfl, Nat.zero_le _, .inl rfl, by first | go_grown | exact (((((hbk.setCell (by simp) _).setCell (by simp) _).setCell (by simp) _).setCell (by simp) _)).setCell (by simp) _⟩
  · have hn0' : ((n : Int) == 0) = false := by rw [beq_eq_false_iff_ne]; omega
    obtain rfl : r = d - x := HR.out.symm.trans (if_neg hn0)
    have hcap0 : ¬ (cap = 0) := by omega
    go_wp2
    refine bodyPost_ret (results_one rfl _ _ _ [.int .i64 q, .int .i64 (d - x), .slice (some ⟨g, off + 1, none⟩) n cap] rfl (cells_tri (by go_simp) (by go_simp) (by go_simp)) Try.underlying61 rfl (by kernel_rfl)) rfl ?_
    exact ⟨_, _, rfl, hcap, .inr rfl, by first | go_grown | exact (((hbk.setCell (by simp) _).setCell (by simp) _).setCell (by simp) _).setCell (by simp) _⟩
end Go.Proofs.Ytdgefdjgpneanad
