/- Proved: at every list of classes impl.TreeOk answers as spec.TreeOk does and writes nothing into its argument (the law FnExactTreeOk returns true and its arguments read as before); no condition. -/
import Derived.Test.YtbpmnldlgmpfcakRows
import Derived.WalkKit
import Derived.ProofKit
import Derived.OpenShut
import Derived.ShutString
import Derived.Below
import Derived.Laws.Cover2
import Derived.Test.YtbpmnldlgmpfcakImplTree2
import Derived.Test.YtbpmnldlgmpfcakIntsLaw
import Derived.Test.YtbpmnldlgmpfcakFrame
import Derived.Deep.DeepCutAuto
namespace Go.Proofs.Ytbpmnldlgmpfcak.fnExactTreeOk
open Go.ChangeShapes Go.WideShapes Go.ChangeAt Go.RowKit
set_option linter.unusedVariables false

theorem own : ownKnob Try.prog.godebug = none := by kernel_rfl

set_option linter.unusedSimpArgs false

/-! ### STEP 1: the walk -/
set_option maxHeartbeats 16000000 in
theorem walk (w : World) (a0 : Option Addr) (cap0 : Nat) (xs0 : List Q4) (hs0 : Quad w.heap.size w a0 xs0) (hi0 : ∀ x ∈ xs0, I64 x.1 ∧ I64 x.2.1 ∧ I64 x.2.2.1 ∧ I64 x.2.2.2) (hn0 : a0 = none → xs0 = [] ∧ cap0 = 0) (hc0 : xs0.length ≤ cap0) (hm0 : cap0 ≤ maxLen) :
    Calls Try.prog 8 #[.slice a0 xs0.length cap0] w fun e w' => e = .returned (.bool true) ∧ Below w.heap.size w w' := by
  have hl : (xs0.length : Int) ≤ 9223372036854775807 := by unfold maxLen at hm0; omega
  by_cases hs : xs0.length ≤ 1048576
  · have hz : (if xs0.length ≤ 1048576 then 1048576 - (xs0.length : Int) else -1) = 1048576 - (xs0.length : Int) := if_pos hs
    have hz' : (0 : Int) ≤ 1048576 - (xs0.length : Int) := by omega
    have hbw : Below w.heap.size w w := Below.refl _ _
    go_enter Try.func8, Try.ntmps8
    go_upto_region 6 with (first
      | (go_at_call 27; refine (szClassS_any _ _ _ _ hl).mono ?_; rintro e v1 ⟨rfl, rfl⟩; rw [hz])
      | (go_at_call 29; refine (toClassS_any cap0 (hs0.here hbw) hs).mono ?_; rintro e v1 ⟨g1, rfl, g1l, g1h, f1, hb1⟩; have hbw := below_step hbw hb1; have zhb1 := hb1.size)
      | (go_at_call 28; refine (specTree_any xs0.length (f1.quad g1h)).mono ?_; rintro e vP ⟨rfl, hbP⟩; have hbw := below_step hbw hbP))
    go_upto_region 7 with (first
      | (go_at_call 29; refine (toClassS_any cap0 (hs0.here hbw) hs).mono ?_; rintro e vX ⟨gx, rfl, hx0, hx1, fx, hbX⟩; have hbw := below_step hbw hbX; have zhbX := hbX.size))
    go_upto_region 8 with (first
      | (go_at_call 30; refine (iTree_any xs0.length (fx.quad hx1)).mono ?_; rintro e vI ⟨rfl, hbI⟩; have hbw := below_step hbw hbI; have fx := fx.mono hbI hx1; have zI := hbI.size))
    go_wp2_with (first
      | (go_at_call 29; refine (toClassS_any cap0 (hs0.here hbw) hs).mono ?_; rintro e v3 ⟨g3, rfl, g3l, g3h, f3, hb3⟩; have hbw := below_step hbw hb3; have zhb3 := hb3.size; have fx := fx.mono hb3 (by omega))
      | (go_at_call 31; refine (eqClassS_any _ _ (fx.quad (by omega)) (f3.quad g3h) (by omega)).mono ?_; rintro e vE ⟨rfl, hbE⟩; rw [show decide (xs0 = xs0) = true from decide_eq_true rfl]; have hbw := below_step hbw hbE))
    go_ret
    exact ⟨rfl, hbw⟩
  · have hz : (if xs0.length ≤ 1048576 then 1048576 - (xs0.length : Int) else -1) = -1 := if_neg hs
    go_enter Try.func8, Try.ntmps8
    go_wp2_with (first | (go_at_call 27; refine (szClassS_any _ _ _ _ hl).mono ?_; rintro e v1 ⟨rfl, rfl⟩; rw [hz]))
    go_ret
    exact ⟨rfl, Below.refl _ _⟩

/-! ### THE ROW's STEP -/
set_option maxRecDepth 100000 in
theorem lifted (os : Os) (started : os.Started) (H : Type) (enc : TypeId × Value → H) :
    ReturnsInHanded {} Try.checked os 8 .any (Rows.fnExactTreeOkSpec.pre6 enc Try.prog Try.f8 Rows.fnExactTreeOkRow.domain false) (Rows.fnExactTreeOkSpec.post enc Try.prog Try.f8 false true false false) := by
  refine returnsInHanded_of_change (C := Try.checked) own started (by kernel_rfl) Try.func8
    (ChangeSpec.witness6 (enc := enc) (C := Try.checked) false ⟨#[], #[.slice none 0 0], []⟩ 8 (by kernel_rfl) (by kernel_rfl) (by kernel_rfl) (by kernel_rfl)) ?_
  intro W base args ds gs before hval0 hW hcnd _
  have hval : ∀ (j : Nat) t v, Try.f8.params[j]? = some t → args[j]? = some v → Value.okWide Try.prog W .any base t v := hval0
  have hW' := hW
  have hlt := hW'.lt
  obtain ⟨p, q, hA0, hV, rfl, hfz, hnd⟩ := hW
  have hA : DataW.TrodAll enc Try.prog W 0 (fun _ => true) true Try.f8.params.toList args.toList ds p := hA0
  rw [Try.params8] at hA hval
  have hR := hA
  obtain ⟨v0, vs0, d0, ds0, p0, q0, hargs, rfl, rfl, h0, r0⟩ := trodAll_cons hA
  obtain ⟨rfl, rfl, rfl⟩ := trodAll_nil r0
  obtain rfl : args = #[v0] := by cases args; simp_all
  obtain ⟨rfl, rfl⟩ := trodVars_none hV
  obtain ⟨a0, cap0, xs0, rfl, hs0, hi0, hn0, hc0, hm0⟩ := open_classS (hval 0 47 v0 rfl rfl) h0
  clear hA0 hval0
  refine (walk W a0 cap0 xs0 hs0 hi0 hn0 hc0 hm0).mono fun e W' ⟨he, hg⟩ => ?_
  subst he
  exact ⟨_, rfl, _, _, _, [], _, [], hW', (trodAll_cons_mk (shut_bool Try.underlying4 _) trodAll_mk0), trodAll_after table_ok hg (by decide) hR (fun x hx => hlt x (List.mem_append.2 (.inl hx))), rfl, hg.frame _, fun h => by cases h⟩

theorem over : Rows.fnExactTreeOkRow.holds Try.pinned (OpenSpec.ofChange Rows.fnExactTreeOkSpec) :=
  OpenClaim.holds_of_wide 8 Try.f8 rfl rfl rfl rfl rfl rfl rfl ⟨rfl, rfl, rfl, rfl, rfl⟩ rfl rfl rfl rfl rfl (by kernel_rfl) Try.func8 (by kernel_rfl)
    (of_decide_eq_true (by kernel_rfl)) (by unfold Func.isWrapper; first | (rw [if_pos (by decide +kernel)]; kernel_rfl) | (rw [if_neg (by decide +kernel)]; exact ⟨rfl, rfl⟩))
    (fun os started H enc _ => lifted os started H enc)

theorem proved : Rows.FnExactTreeOkSaid := over
#print axioms proved
end Go.Proofs.Ytbpmnldlgmpfcak.fnExactTreeOk
namespace Go.Proofs.Ytbpmnldlgmpfcak
theorem fnExactTreeOk_holds : Rows.FnExactTreeOkSaid := fnExactTreeOk.proved
#print axioms fnExactTreeOk_holds
end Go.Proofs.Ytbpmnldlgmpfcak
