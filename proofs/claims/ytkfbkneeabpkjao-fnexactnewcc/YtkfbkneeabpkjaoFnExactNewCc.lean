/- Proved: at every argument impl.NewCc answers as spec.NewCc does (the law FnExactNewCc returns true and its arguments read as before); no condition. -/
import Derived.Test.YtkfbkneeabpkjaoRows
import Derived.WalkKit
import Derived.ProofKit
import Derived.OpenShut
import Derived.ShutString
import Derived.Test.YtkfbkneeabpkjaoCcBoth
namespace Go.Proofs.Ytkfbkneeabpkjao.fnExactNewCc
open Go.ChangeShapes Go.WideShapes Go.ChangeAt Go.RowKit
open Go.ChangeMaps (open_string shut_string)
set_option linter.unusedVariables false      -- a walk need not use every 'w<i>' (that an integer argument fits its kind)

theorem own : ownKnob Try.prog.godebug = none := by kernel_rfl


/-! ### STEP 1: THE WALK: the Go text returns true. 'Grown w w'': the world has at most new blocks (Derived/RowKit3.lean). Part the cases AHEAD of 'go_enter' where a test parts the walk; take each callee by a contract of your own. -/
set_option maxHeartbeats 8000000 in
theorem walk (a0 : Int) (w0 : (Lit.int .i64 a0).wf = true) (w : World) :
    Calls Try.prog 5 #[.int .i64 a0] w fun e w' => e = .returned (.bool true) ∧ Below w.heap.size w w' := by
  go_enter Try.func5, Try.ntmps5
  go_wp2_with (first
    | (go_at_call 16; refine (specNewCc_any _ _).mono ?_; rintro e v2 ⟨rfl, hb2⟩; have hbw := below_two (w := w) (by go_grown) hb2; have kc := below_cells4 hb2; have kf := below_frozens4 hb2; have zb := hbw.size; have zl := Below.size hb2; (try simp at zl); have kS := hb2)
    | (go_at_call 17; refine (implNewCc_any _ _).mono ?_; rintro e v4 ⟨rfl, hb4⟩; have hbw := below_two (w := w) (by go_grown) hb4; have kc := below_cells4 hb4; have kf := below_frozens4 hb4; have zb := hbw.size; have zl := Below.size hb4; (try simp at zl); have hv4 : v2.heap.size < v4.heap.size := (by have := Below.size hb4; (try simp at this); omega))
    | (go_at_call 18; refine (eqCc_same _ _ _ _ _ _ _ _ _ _ _ ).mono ?_; rintro e v5 ⟨rfl, hb5⟩; have hbw := below_two (w := w) (by go_grown) hb5)
    | go_in)
  go_ret
  exact ⟨rfl, hbw⟩

/-! ### THE ROW's STEP: WRITTEN OUT: LEAVE IT -/
set_option maxRecDepth 100000 in
theorem lifted (os : Os) (started : os.Started) (H : Type) (enc : TypeId × Value → H) :
    ReturnsInHanded {} Try.checked os 5 .any (Rows.fnExactNewCcSpec.pre6 enc Try.prog Try.f5 Rows.fnExactNewCcRow.domain false) (Rows.fnExactNewCcSpec.post enc Try.prog Try.f5 false true false false) := by
  refine returnsInHanded_of_change (C := Try.checked) own started (by kernel_rfl) Try.func5
    (ChangeSpec.witness6 (enc := enc) (C := Try.checked) false ⟨#[], #[.int .i64 0], []⟩ 8 (by kernel_rfl) (by kernel_rfl) (by kernel_rfl) (by kernel_rfl)) ?_
  intro W base args ds gs before hval0 hW hcnd _
  have hval : ∀ (j : Nat) t v, Try.f5.params[j]? = some t → args[j]? = some v → Value.okWide Try.prog W .any base t v := hval0
  have hW' := hW
  obtain ⟨p, q, hA0, hV, rfl, hfz, hnd⟩ := hW
  have hA : DataW.TrodAll enc Try.prog W 0 (fun _ => true) true Try.f5.params.toList args.toList ds p := hA0
  rw [Try.params5] at hA hval
  obtain ⟨v0, vs0, d0, ds0, p0, q0, hargs, rfl, rfl, h0, r0⟩ := trodAll_cons hA
  obtain ⟨rfl, rfl, rfl⟩ := trodAll_nil r0
  obtain rfl : args = #[v0] := by cases args; simp_all
  obtain ⟨rfl, rfl⟩ := trodVars_none hV
  obtain ⟨a0, rfl, rfl, rfl, w0⟩ := open_int Try.underlying2 (hval 0 2 v0 rfl rfl) h0
  clear hA0 hval0
  refine (walk a0 w0 W).mono fun e W' ⟨he, hg⟩ => ?_
  subst he
  exact ⟨_, rfl, _, _, _, [], _, [], hW', (trodAll_cons_mk (shut_bool Try.underlying4 _) trodAll_mk0), (trodAll_cons_mk (shut_int Try.underlying2 w0) trodAll_mk0), rfl, hg.frame _, fun h => by cases h⟩

theorem over : Rows.fnExactNewCcRow.holds Try.pinned (OpenSpec.ofChange Rows.fnExactNewCcSpec) :=
  OpenClaim.holds_of_wide 5 Try.f5 rfl rfl rfl rfl rfl rfl rfl ⟨rfl, rfl, rfl, rfl, rfl⟩ rfl rfl rfl rfl rfl (by kernel_rfl) Try.func5 (by kernel_rfl)
    (of_decide_eq_true (by kernel_rfl)) (by unfold Func.isWrapper; first | (rw [if_pos (by decide +kernel)]; kernel_rfl) | (rw [if_neg (by decide +kernel)]; exact ⟨rfl, rfl⟩))
    (fun os started H enc _ => lifted os started H enc)

/-- ████ THE STATEMENT ████ -/
theorem proved : Rows.FnExactNewCcSaid :=
  over
#print axioms proved
end Go.Proofs.Ytkfbkneeabpkjao.fnExactNewCc
namespace Go.Proofs.Ytkfbkneeabpkjao
theorem fnExactNewCc_holds : Rows.FnExactNewCcSaid := fnExactNewCc.proved
#print axioms fnExactNewCc_holds
end Go.Proofs.Ytkfbkneeabpkjao
