/- Proved: at every list of classes and every number impl.Spare answers as spec.Spare does and writes nothing into its argument (the law FnExactSpare returns true and its arguments read as before); no condition. -/
import Derived.Test.YtbpmnldlgmpfcalRows
import Derived.WalkKit
import Derived.ProofKit
import Derived.OpenShut
import Derived.ShutString
import Derived.Below
import Derived.Laws.Cover2
import Derived.Test.YtbpmnldlgmpfcalImplTree2
import Derived.Test.YtbpmnldlgmpfcalIntsLaw
import Derived.Test.YtbpmnldlgmpfcalFrame
import Derived.Deep.DeepCutAuto
namespace Go.Proofs.Ytbpmnldlgmpfcal.fnExactSpare
open Go.ChangeShapes Go.WideShapes Go.ChangeAt Go.RowKit
set_option linter.unusedVariables false

theorem own : ownKnob Try.prog.godebug = none := by kernel_rfl

set_option linter.unusedSimpArgs false

/-! ### STEP 1: the walk -/
set_option maxHeartbeats 16000000 in
theorem walk (w : World) (a0 : Option Addr) (cap0 : Nat) (xs0 : List Q4) (hs0 : Quad w.heap.size w a0 xs0) (hi0 : ∀ x ∈ xs0, I64 x.1 ∧ I64 x.2.1 ∧ I64 x.2.2.1 ∧ I64 x.2.2.2) (hn0 : a0 = none → xs0 = [] ∧ cap0 = 0) (hc0 : xs0.length ≤ cap0) (hm0 : cap0 ≤ maxLen) (a1 : Int) (w1 : (Lit.int .i64 a1).wf = true) :
    Calls Try.prog 6 #[.slice a0 xs0.length cap0, .int .i64 a1] w fun e w' => e = .returned (.bool true) ∧ Below w.heap.size w w' := by
  have hl : (xs0.length : Int) ≤ 9223372036854775807 := by unfold maxLen at hm0; omega
  by_cases hs : xs0.length ≤ 1048576
  · have hz : (if xs0.length ≤ 1048576 then 1048576 - (xs0.length : Int) else -1) = 1048576 - (xs0.length : Int) := if_pos hs
    have hz' : (0 : Int) ≤ 1048576 - (xs0.length : Int) := by omega
    have hbw : Below w.heap.size w w := Below.refl _ _
    go_enter Try.func6, Try.ntmps6
    go_upto_region 6 with (first
      | (go_at_call 9; refine (szClassS_any _ _ _ _ hl).mono ?_; rintro e v1 ⟨rfl, rfl⟩; rw [hz])
      | (go_at_call 11; refine (toClassS_any cap0 (hs0.here hbw) hs).mono ?_; rintro e v1 ⟨g1, rfl, g1l, g1h, f1, hb1⟩; have hbw := below_step hbw hb1; have zhb1 := hb1.size)
      | (go_at_call 22; refine (specSpare_any xs0.length a1 (f1.quad g1h)).mono ?_; rintro e vP ⟨rfl, hbP⟩; have hbw := below_step hbw hbP))
    go_upto_region 7 with (first
      | (go_at_call 11; refine (toClassS_any cap0 (hs0.here hbw) hs).mono ?_; rintro e vX ⟨gx, rfl, hx0, hx1, fx, hbX⟩; have hbw := below_step hbw hbX; have zhbX := hbX.size))
    go_upto_region 8 with (first
      | (go_at_call 23; refine (iSpare_any xs0.length a1 (fx.quad hx1)).mono ?_; rintro e vI ⟨rfl, hbI⟩; have hbw := below_step hbw hbI; have fx := fx.mono hbI hx1; have zI := hbI.size))
    go_wp2_with (first
      | (go_at_call 11; refine (toClassS_any cap0 (hs0.here hbw) hs).mono ?_; rintro e v3 ⟨g3, rfl, g3l, g3h, f3, hb3⟩; have hbw := below_step hbw hb3; have zhb3 := hb3.size; have fx := fx.mono hb3 (by omega))
      | (go_at_call 14; refine (eqClassS_any _ _ (fx.quad (by omega)) (f3.quad g3h) (by omega)).mono ?_; rintro e vE ⟨rfl, hbE⟩; rw [show decide (xs0 = xs0) = true from decide_eq_true rfl]; have hbw := below_step hbw hbE))
    go_ret
    exact ⟨rfl, hbw⟩
  · have hz : (if xs0.length ≤ 1048576 then 1048576 - (xs0.length : Int) else -1) = -1 := if_neg hs
    go_enter Try.func6, Try.ntmps6
    go_wp2_with (first | (go_at_call 9; refine (szClassS_any _ _ _ _ hl).mono ?_; rintro e v1 ⟨rfl, rfl⟩; rw [hz]))
    go_ret
    exact ⟨rfl, Below.refl _ _⟩

/-! ### THE ROW's STEP -/
set_option maxRecDepth 100000 in
theorem lifted (os : Os) (started : os.Started) (H : Type) (enc : TypeId × Value → H) :
    ReturnsInHanded {} Try.checked os 6 .any (Rows.fnExactSpareSpec.pre6 enc Try.prog Try.f6 Rows.fnExactSpareRow.domain false) (Rows.fnExactSpareSpec.post enc Try.prog Try.f6 false true false false) := by
  refine returnsInHanded_of_change (C := Try.checked) own started (by kernel_rfl) Try.func6
    (ChangeSpec.witness6 (enc := enc) (C := Try.checked) false ⟨#[], #[.slice none 0 0, .int .i64 0], []⟩ 8 (by kernel_rfl) (by kernel_rfl) (by kernel_rfl) (by kernel_rfl)) ?_
  intro W base args ds gs before hval0 hW hcnd _
  have hval : ∀ (j : Nat) t v, Try.f6.params[j]? = some t → args[j]? = some v → Value.okWide Try.prog W .any base t v := hval0
  have hW' := hW
  have hlt := hW'.lt
  obtain ⟨p, q, hA0, hV, rfl, hfz, hnd⟩ := hW
  have hA : DataW.TrodAll enc Try.prog W 0 (fun _ => true) true Try.f6.params.toList args.toList ds p := hA0
  rw [Try.params6] at hA hval
  have hR := hA
  obtain ⟨v0, vs0, d0, ds0, p0, q0, hargs, rfl, rfl, h0, r0⟩ := trodAll_cons hA
  obtain ⟨v1, vs1, d1, ds1, p1, q1, rfl, rfl, rfl, h1, r1⟩ := trodAll_cons r0
  obtain ⟨rfl, rfl, rfl⟩ := trodAll_nil r1
  obtain rfl : args = #[v0, v1] := by cases args; simp_all
  obtain ⟨rfl, rfl⟩ := trodVars_none hV
  obtain ⟨a0, cap0, xs0, rfl, hs0, hi0, hn0, hc0, hm0⟩ := open_classS (hval 0 22 v0 rfl rfl) h0
  obtain ⟨a1, rfl, rfl, rfl, w1⟩ := open_int Try.underlying2 (hval 1 2 v1 rfl rfl) h1
  clear hA0 hval0
  refine (walk W a0 cap0 xs0 hs0 hi0 hn0 hc0 hm0 a1 w1).mono fun e W' ⟨he, hg⟩ => ?_
  subst he
  exact ⟨_, rfl, _, _, _, [], _, [], hW', (trodAll_cons_mk (shut_bool Try.underlying4 _) trodAll_mk0), trodAll_after table_ok hg (by decide) hR (fun x hx => hlt x (List.mem_append.2 (.inl hx))), rfl, hg.frame _, fun h => by cases h⟩

theorem over : Rows.fnExactSpareRow.holds Try.pinned (OpenSpec.ofChange Rows.fnExactSpareSpec) :=
  OpenClaim.holds_of_wide 6 Try.f6 rfl rfl rfl rfl rfl rfl rfl ⟨rfl, rfl, rfl, rfl, rfl⟩ rfl rfl rfl rfl rfl (by kernel_rfl) Try.func6 (by kernel_rfl)
    (of_decide_eq_true (by kernel_rfl)) (by unfold Func.isWrapper; first | (rw [if_pos (by decide +kernel)]; kernel_rfl) | (rw [if_neg (by decide +kernel)]; exact ⟨rfl, rfl⟩))
    (fun os started H enc _ => lifted os started H enc)

theorem proved : Rows.FnExactSpareSaid := over
#print axioms proved
end Go.Proofs.Ytbpmnldlgmpfcal.fnExactSpare
namespace Go.Proofs.Ytbpmnldlgmpfcal
theorem fnExactSpare_holds : Rows.FnExactSpareSaid := fnExactSpare.proved
#print axioms fnExactSpare_holds
end Go.Proofs.Ytbpmnldlgmpfcal
