/- Proved: at every argument impl.CubicLoss answers as spec.CubicLoss does (the law FnExactCubicLoss returns true and its arguments read as before); no condition. -/
import Derived.Test.YtmophpbfaonfmapRows
import Derived.WalkKit
import Derived.ProofKit
import Derived.OpenShut
import Derived.ShutString
import Derived.Below
import Derived.Laws.Cover2
import Derived.Test.YtmophpbfaonfmapCubBoth
namespace Go.Proofs.Ytmophpbfaonfmap.fnExactCubicLoss
open Go.ChangeShapes Go.WideShapes Go.ChangeAt Go.RowKit
set_option linter.unusedVariables false

theorem own : ownKnob Try.prog.godebug = none := by kernel_rfl

theorem lt_of_x {w w' : World} {A : Obj} (h : Below (w.alloc A).heap.size (w.alloc A) w') : w.heap.size < w'.heap.size := by
  have := h.size
  simp at this
  omega

/-! ### STEP 1: the walk -/
set_option maxHeartbeats 8000000 in
theorem walk (w : World) (k0 wn0 th0 fl0 ac0 la0 og0 st0 fr0 : Int) (sl0 : Bool) (ik0 : I64 k0) (iwn0 : I64 wn0) (ith0 : I64 th0) (ifl0 : I64 fl0) (iac0 : I64 ac0) (ila0 : I64 la0) (iog0 : I64 og0) (ist0 : I64 st0) (ifr0 : I64 fr0) :
    Calls Try.prog 7 #[.agg #[.int .i64 k0, .int .i64 wn0, .int .i64 th0, .int .i64 fl0, .int .i64 ac0, .int .i64 la0, .int .i64 og0, .int .i64 st0, .int .i64 fr0, .bool sl0]] w fun e w' => e = .returned (.bool true) ∧ Below w.heap.size w w' := by
  go_enter Try.func7, Try.ntmps7
  go_wp2_with (first
    | (go_at_call 9; have g1 := kS; refine (toCc_any _ _ _ _ _ _ _ _ _ _ _ ).mono ?_; rintro e v3 ⟨rfl, hb3⟩; have hbw := below_two (w := w) (by go_grown) hb3; have hx := below_two (w := (w.alloc (.cells #[.int .i64 k0, .int .i64 wn0, .int .i64 th0, .int .i64 fl0, .int .i64 ac0, .int .i64 la0, .int .i64 og0, .int .i64 st0, .int .i64 fr0, .bool sl0] 23))) (by go_grown) hb3; have q0 : v3.cell? ⟨w.heap.size, 0, none⟩ = some (.int .i64 k0) := (below_cells4 hx _ _ (by simp)).trans (by go_simp); have q1 : v3.cell? ⟨w.heap.size, 1, none⟩ = some (.int .i64 wn0) := (below_cells4 hx _ _ (by simp)).trans (by go_simp); have q2 : v3.cell? ⟨w.heap.size, 2, none⟩ = some (.int .i64 th0) := (below_cells4 hx _ _ (by simp)).trans (by go_simp); have q3 : v3.cell? ⟨w.heap.size, 3, none⟩ = some (.int .i64 fl0) := (below_cells4 hx _ _ (by simp)).trans (by go_simp); have q4 : v3.cell? ⟨w.heap.size, 4, none⟩ = some (.int .i64 ac0) := (below_cells4 hx _ _ (by simp)).trans (by go_simp); have q5 : v3.cell? ⟨w.heap.size, 5, none⟩ = some (.int .i64 la0) := (below_cells4 hx _ _ (by simp)).trans (by go_simp); have q6 : v3.cell? ⟨w.heap.size, 6, none⟩ = some (.int .i64 og0) := (below_cells4 hx _ _ (by simp)).trans (by go_simp); have q7 : v3.cell? ⟨w.heap.size, 7, none⟩ = some (.int .i64 st0) := (below_cells4 hx _ _ (by simp)).trans (by go_simp); have q8 : v3.cell? ⟨w.heap.size, 8, none⟩ = some (.int .i64 fr0) := (below_cells4 hx _ _ (by simp)).trans (by go_simp); have q9 : v3.cell? ⟨w.heap.size, 9, none⟩ = some (.bool sl0) := (below_cells4 hx _ _ (by simp)).trans (by go_simp); have zx := lt_of_x hx; have kc := below_cells4 hb3; have kf := below_frozens4 hb3; have zb := hbw.size; have zl := Below.size hb3; (try simp at zl); have hv3 : v2.heap.size < v3.heap.size := (by have := Below.size hb3; (try simp at this); omega))
    | (go_at_call 9; refine (toCc_any _ _ _ _ _ _ _ _ _ _ _ ).mono ?_; rintro e v1 ⟨rfl, hb1⟩; have hbw := below_two (w := w) (by go_grown) hb1; have hx := below_two (w := (w.alloc (.cells #[.int .i64 k0, .int .i64 wn0, .int .i64 th0, .int .i64 fl0, .int .i64 ac0, .int .i64 la0, .int .i64 og0, .int .i64 st0, .int .i64 fr0, .bool sl0] 23))) (by go_grown) hb1; have q0 : v1.cell? ⟨w.heap.size, 0, none⟩ = some (.int .i64 k0) := (below_cells4 hx _ _ (by simp)).trans (by go_simp); have q1 : v1.cell? ⟨w.heap.size, 1, none⟩ = some (.int .i64 wn0) := (below_cells4 hx _ _ (by simp)).trans (by go_simp); have q2 : v1.cell? ⟨w.heap.size, 2, none⟩ = some (.int .i64 th0) := (below_cells4 hx _ _ (by simp)).trans (by go_simp); have q3 : v1.cell? ⟨w.heap.size, 3, none⟩ = some (.int .i64 fl0) := (below_cells4 hx _ _ (by simp)).trans (by go_simp); have q4 : v1.cell? ⟨w.heap.size, 4, none⟩ = some (.int .i64 ac0) := (below_cells4 hx _ _ (by simp)).trans (by go_simp); have q5 : v1.cell? ⟨w.heap.size, 5, none⟩ = some (.int .i64 la0) := (below_cells4 hx _ _ (by simp)).trans (by go_simp); have q6 : v1.cell? ⟨w.heap.size, 6, none⟩ = some (.int .i64 og0) := (below_cells4 hx _ _ (by simp)).trans (by go_simp); have q7 : v1.cell? ⟨w.heap.size, 7, none⟩ = some (.int .i64 st0) := (below_cells4 hx _ _ (by simp)).trans (by go_simp); have q8 : v1.cell? ⟨w.heap.size, 8, none⟩ = some (.int .i64 fr0) := (below_cells4 hx _ _ (by simp)).trans (by go_simp); have q9 : v1.cell? ⟨w.heap.size, 9, none⟩ = some (.bool sl0) := (below_cells4 hx _ _ (by simp)).trans (by go_simp); have zx := lt_of_x hx; have kc := below_cells4 hb1; have kf := below_frozens4 hb1; have zb := hbw.size; have zl := Below.size hb1; (try simp at zl))
    | (go_at_call 18; refine (specCubicLoss_any k0 wn0 th0 fl0 ac0 la0 og0 st0 fr0 sl0 _).mono ?_; rintro e v2 ⟨rfl, hb2⟩; have hbw := below_two (w := w) (by go_grown) hb2; have hx := below_two (w := (w.alloc (.cells #[.int .i64 k0, .int .i64 wn0, .int .i64 th0, .int .i64 fl0, .int .i64 ac0, .int .i64 la0, .int .i64 og0, .int .i64 st0, .int .i64 fr0, .bool sl0] 23))) (by go_grown) hb2; have q0 : v2.cell? ⟨w.heap.size, 0, none⟩ = some (.int .i64 k0) := (below_cells4 hx _ _ (by simp)).trans (by go_simp); have q1 : v2.cell? ⟨w.heap.size, 1, none⟩ = some (.int .i64 wn0) := (below_cells4 hx _ _ (by simp)).trans (by go_simp); have q2 : v2.cell? ⟨w.heap.size, 2, none⟩ = some (.int .i64 th0) := (below_cells4 hx _ _ (by simp)).trans (by go_simp); have q3 : v2.cell? ⟨w.heap.size, 3, none⟩ = some (.int .i64 fl0) := (below_cells4 hx _ _ (by simp)).trans (by go_simp); have q4 : v2.cell? ⟨w.heap.size, 4, none⟩ = some (.int .i64 ac0) := (below_cells4 hx _ _ (by simp)).trans (by go_simp); have q5 : v2.cell? ⟨w.heap.size, 5, none⟩ = some (.int .i64 la0) := (below_cells4 hx _ _ (by simp)).trans (by go_simp); have q6 : v2.cell? ⟨w.heap.size, 6, none⟩ = some (.int .i64 og0) := (below_cells4 hx _ _ (by simp)).trans (by go_simp); have q7 : v2.cell? ⟨w.heap.size, 7, none⟩ = some (.int .i64 st0) := (below_cells4 hx _ _ (by simp)).trans (by go_simp); have q8 : v2.cell? ⟨w.heap.size, 8, none⟩ = some (.int .i64 fr0) := (below_cells4 hx _ _ (by simp)).trans (by go_simp); have q9 : v2.cell? ⟨w.heap.size, 9, none⟩ = some (.bool sl0) := (below_cells4 hx _ _ (by simp)).trans (by go_simp); have zx := lt_of_x hx; have kc := below_cells4 hb2; have kf := below_frozens4 hb2; have zb := hbw.size; have zl := Below.size hb2; (try simp at zl); have kS := hb2)
    | (go_at_call 19; refine (implCubicLoss_any k0 wn0 th0 fl0 ac0 la0 og0 st0 fr0 sl0 _).mono ?_; rintro e v4 ⟨rfl, hb4⟩; have hbw := below_two (w := w) (by go_grown) hb4; have hx := below_two (w := (w.alloc (.cells #[.int .i64 k0, .int .i64 wn0, .int .i64 th0, .int .i64 fl0, .int .i64 ac0, .int .i64 la0, .int .i64 og0, .int .i64 st0, .int .i64 fr0, .bool sl0] 23))) (by go_grown) hb4; have q0 : v4.cell? ⟨w.heap.size, 0, none⟩ = some (.int .i64 k0) := (below_cells4 hx _ _ (by simp)).trans (by go_simp); have q1 : v4.cell? ⟨w.heap.size, 1, none⟩ = some (.int .i64 wn0) := (below_cells4 hx _ _ (by simp)).trans (by go_simp); have q2 : v4.cell? ⟨w.heap.size, 2, none⟩ = some (.int .i64 th0) := (below_cells4 hx _ _ (by simp)).trans (by go_simp); have q3 : v4.cell? ⟨w.heap.size, 3, none⟩ = some (.int .i64 fl0) := (below_cells4 hx _ _ (by simp)).trans (by go_simp); have q4 : v4.cell? ⟨w.heap.size, 4, none⟩ = some (.int .i64 ac0) := (below_cells4 hx _ _ (by simp)).trans (by go_simp); have q5 : v4.cell? ⟨w.heap.size, 5, none⟩ = some (.int .i64 la0) := (below_cells4 hx _ _ (by simp)).trans (by go_simp); have q6 : v4.cell? ⟨w.heap.size, 6, none⟩ = some (.int .i64 og0) := (below_cells4 hx _ _ (by simp)).trans (by go_simp); have q7 : v4.cell? ⟨w.heap.size, 7, none⟩ = some (.int .i64 st0) := (below_cells4 hx _ _ (by simp)).trans (by go_simp); have q8 : v4.cell? ⟨w.heap.size, 8, none⟩ = some (.int .i64 fr0) := (below_cells4 hx _ _ (by simp)).trans (by go_simp); have q9 : v4.cell? ⟨w.heap.size, 9, none⟩ = some (.bool sl0) := (below_cells4 hx _ _ (by simp)).trans (by go_simp); have zx := lt_of_x hx; have kc := below_cells4 hb4; have kf := below_frozens4 hb4; have zb := hbw.size; have zl := Below.size hb4; (try simp at zl); have hv4 : v2.heap.size < v4.heap.size := (by have := Below.size hb4; (try simp at this); omega))
    | (go_at_call 11; refine (eqCc_same _ _ _ _ _ _ _ _ _ _ _ ).mono ?_; rintro e v5 ⟨rfl, hb5⟩; have hbw := below_two (w := w) (by go_grown) hb5)
    | go_in)
  go_ret
  exact ⟨rfl, hbw⟩

/-! ### THE ROW's STEP -/
set_option maxRecDepth 100000 in
theorem lifted (os : Os) (started : os.Started) (H : Type) (enc : TypeId × Value → H) :
    ReturnsInHanded {} Try.checked os 7 .any (Rows.fnExactCubicLossSpec.pre6 enc Try.prog Try.f7 Rows.fnExactCubicLossRow.domain false) (Rows.fnExactCubicLossSpec.post enc Try.prog Try.f7 false true false false) := by
  refine returnsInHanded_of_change (C := Try.checked) own started (by kernel_rfl) Try.func7
    (ChangeSpec.witness6 (enc := enc) (C := Try.checked) false ⟨#[], #[.agg #[.int .i64 0, .int .i64 0, .int .i64 0, .int .i64 0, .int .i64 0, .int .i64 0, .int .i64 0, .int .i64 0, .int .i64 0, .bool false]], []⟩ 8 (by kernel_rfl) (by kernel_rfl) (by kernel_rfl) (by kernel_rfl)) ?_
  intro W base args ds gs before hval0 hW hcnd _
  have hval : ∀ (j : Nat) t v, Try.f7.params[j]? = some t → args[j]? = some v → Value.okWide Try.prog W .any base t v := hval0
  have hW' := hW
  have hlt := hW'.lt
  obtain ⟨p, q, hA0, hV, rfl, hfz, hnd⟩ := hW
  have hA : DataW.TrodAll enc Try.prog W 0 (fun _ => true) true Try.f7.params.toList args.toList ds p := hA0
  rw [Try.params7] at hA hval
  have hR := hA
  obtain ⟨v0, vs0, d0, ds0, p0, q0, hargs, rfl, rfl, h0, r0⟩ := trodAll_cons hA
  obtain ⟨rfl, rfl, rfl⟩ := trodAll_nil r0
  obtain rfl : args = #[v0] := by cases args; simp_all
  obtain ⟨rfl, rfl⟩ := trodVars_none hV
  obtain ⟨k0, wn0, th0, fl0, ac0, la0, og0, st0, fr0, sl0, rfl, ik0, iwn0, ith0, ifl0, iac0, ila0, iog0, ist0, ifr0⟩ := open_cc (hval 0 23 v0 rfl rfl) h0
  clear hA0 hval0
  refine (walk W k0 wn0 th0 fl0 ac0 la0 og0 st0 fr0 sl0 ik0 iwn0 ith0 ifl0 iac0 ila0 iog0 ist0 ifr0).mono fun e W' ⟨he, hg⟩ => ?_
  subst he
  exact ⟨_, rfl, _, _, _, [], _, [], hW', (trodAll_cons_mk (shut_bool Try.underlying4 _) trodAll_mk0), trodAll_after table_ok hg (by decide) hR (fun x hx => hlt x (List.mem_append.2 (.inl hx))), rfl, hg.frame _, fun h => by cases h⟩

theorem over : Rows.fnExactCubicLossRow.holds Try.pinned (OpenSpec.ofChange Rows.fnExactCubicLossSpec) :=
  OpenClaim.holds_of_wide 7 Try.f7 rfl rfl rfl rfl rfl rfl rfl ⟨rfl, rfl, rfl, rfl, rfl⟩ rfl rfl rfl rfl rfl (by kernel_rfl) Try.func7 (by kernel_rfl)
    (of_decide_eq_true (by kernel_rfl)) (by unfold Func.isWrapper; first | (rw [if_pos (by decide +kernel)]; kernel_rfl) | (rw [if_neg (by decide +kernel)]; exact ⟨rfl, rfl⟩))
    (fun os started H enc _ => lifted os started H enc)

theorem proved : Rows.FnExactCubicLossSaid := over
#print axioms proved
end Go.Proofs.Ytmophpbfaonfmap.fnExactCubicLoss
namespace Go.Proofs.Ytmophpbfaonfmap
theorem fnExactCubicLoss_holds : Rows.FnExactCubicLossSaid := fnExactCubicLoss.proved
#print axioms fnExactCubicLoss_holds
end Go.Proofs.Ytmophpbfaonfmap
