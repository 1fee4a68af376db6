/- Proved: at every list of classes and every number impl.Under answers as spec.Under does, writes nothing into its argument, and its answer owns its memory (the law FnExactUnder returns true and its arguments read as before); no condition. -/
import Derived.Test.YtbpmnldlgmpfcalRows
import Derived.WalkKit
import Derived.ProofKit
import Derived.OpenShut
import Derived.ShutString
import Derived.Below
import Derived.Laws.Cover2
import Derived.Test.YtbpmnldlgmpfcalImplPath
import Derived.Test.YtbpmnldlgmpfcalIntsLaw
import Derived.Test.YtbpmnldlgmpfcalFrame
import Derived.Deep.DeepCutAuto
namespace Go.Proofs.Ytbpmnldlgmpfcal.fnExactUnder
open Go.ChangeShapes Go.WideShapes Go.ChangeAt Go.RowKit
set_option linter.unusedVariables false

theorem own : ownKnob Try.prog.godebug = none := by kernel_rfl

set_option linter.unusedSimpArgs false

/-! ### STEP 1: the walk -/
set_option maxHeartbeats 16000000 in
theorem walk (w : World) (a0 : Option Addr) (cap0 : Nat) (xs0 : List Q4) (hs0 : Quad w.heap.size w a0 xs0) (hi0 : ∀ x ∈ xs0, I64 x.1 ∧ I64 x.2.1 ∧ I64 x.2.2.1 ∧ I64 x.2.2.2) (hn0 : a0 = none → xs0 = [] ∧ cap0 = 0) (hc0 : xs0.length ≤ cap0) (hm0 : cap0 ≤ maxLen) (a1 : Int) (w1 : (Lit.int .i64 a1).wf = true) :
    Calls Try.prog 5 #[.slice a0 xs0.length cap0, .int .i64 a1] w fun e w' => e = .returned (.bool true) ∧ Below w.heap.size w w' := by
  have hl : (xs0.length : Int) ≤ 9223372036854775807 := by unfold maxLen at hm0; omega
  by_cases hs : xs0.length ≤ 1048576
  · have hz : (if xs0.length ≤ 1048576 then 1048576 - (xs0.length : Int) else -1) = 1048576 - (xs0.length : Int) := if_pos hs
    have hz' : (0 : Int) ≤ 1048576 - (xs0.length : Int) := by omega
    have hbw : Below w.heap.size w w := Below.refl _ _
    obtain ⟨ys, hys⟩ : ∃ ys, underOf xs0 a1 = ys := ⟨_, rfl⟩
    have hyl : ys.length ≤ 30 := by rw [← hys]; exact underOf_length xs0 a1
    have HY : Hid (underOf xs0 a1 = ys) := hys
    clear hys
    go_enter Try.func5, Try.ntmps5
    go_upto_region 6 with (first
      | (go_at_call 9; refine (szClassS_any _ _ _ _ hl).mono ?_; rintro e v1 ⟨rfl, rfl⟩; rw [hz])
      | (go_at_call 11; refine (toClassS_any cap0 (hs0.here hbw) hs).mono ?_; rintro e v1 ⟨g1, rfl, g1l, g1h, f1, hb1⟩; have hbw := below_step hbw hb1; have zhb1 := hb1.size)
      | (go_at_call 20; refine (specUnder_any xs0.length a1 (f1.quad g1h)).mono ?_; rintro e vP ⟨a8, n8, c8, rfl, iv8, hbP⟩; rw [HY.out] at iv8; have hbw := below_step hbw hbP; have zP := hbw.size; have o8 : ∀ g, (Value.slice a8 n8 c8).ownBlock = some g → g < vP.heap.size := fun g hg => (iv8.own hg).2))
    go_upto_region 7 with (first
      | (go_at_call 11; refine (toClassS_any cap0 (hs0.here hbw) hs).mono ?_; rintro e vX ⟨gx, rfl, hx0, hx1, fx, hbX⟩; have hbw := below_step hbw hbX; have zhbX := hbX.size; have iv8 := iv8.next hbX))
    go_upto_region 8 with (first
      | (go_at_call 21; refine (iUnder_any xs0.length a1 (fx.quad hx1)).mono ?_; rintro e vI ⟨a11, n11, c11, rfl, iv11, hbI⟩; rw [HY.out] at iv11; have hbw := below_step hbw hbI; have fx := fx.mono hbI hx1; have zI := hbI.size; have iv8 := iv8.next hbI; have o11 : ∀ g, (Value.slice a11 n11 c11).ownBlock = some g → vX.heap.size ≤ g := fun g hg => (iv11.own hg).1))
    go_upto_region 10 with (first
      | (go_at_call 13; refine (eqI_any iv11 iv8 (by omega)).mono ?_; rintro e v4 ⟨rfl, hb4⟩; rw [show decide (ys = ys) = true from decide_eq_true rfl]; have hbw := below_step hbw hb4; have fx := fx.mono hb4 (by omega); have z4 := hb4.size; have iv8 := iv8.next hb4; have iv11 := iv11.next hb4))
    go_upto_region 13 with (first
      | (go_at_call 11; refine (toClassS_any cap0 (hs0.here hbw) hs).mono ?_; rintro e v3 ⟨g3, rfl, g3l, g3h, f3, hb3⟩; have hbw := below_step hbw hb3; have zhb3 := hb3.size; have fx := fx.mono hb3 (by omega); have iv8 := iv8.next hb3; have iv11 := iv11.next hb3)
      | (go_at_call 14; refine (eqClassS_any _ _ (fx.quad (by omega)) (f3.quad g3h) (by omega)).mono ?_; rintro e v5 ⟨rfl, hb5⟩; rw [show decide (xs0 = xs0) = true from decide_eq_true rfl]; have hbw := below_step hbw hb5; have fx := fx.mono hb5 (by omega); have z5 := hb5.size; have iv8 := iv8.next hb5; have iv11 := iv11.next hb5))
    go_upto_region 14 with (first
      | (go_at_call 15; refine (markClassS_any _ 1 fx (by omega) (by omega) (by omega) (by omega)).mono ?_; rintro e v6 ⟨rfl, f6, on6⟩; have oo6 := OnlyO.of_only on6; have hbw := hbw.trans (oo6.below (fun g hg => by have e : gx = g := Option.some.inj hg; omega) hbw.size); have z6 := oo6.size; have iv8 := iv8.onlyO oo6 (fun g hg e => by have := o8 g hg; have e : gx = g := Option.some.inj e; omega); have iv11 := iv11.onlyO oo6 (fun g hg e => by have := o11 g hg; have e : gx = g := Option.some.inj e; omega)))
    have hk : decide ((1 : Int) + 4 * (xs0.length : Int) < 0) = false := decide_eq_false (by omega)
    go_upto_region 17 with (first
      | (go_at_call 13; refine (eqI_any iv11 iv8 (by omega)).mono ?_; rintro e v7 ⟨rfl, hb7⟩; rw [show decide (ys = ys) = true from decide_eq_true rfl]; have hbw := below_step hbw hb7; have z7 := hb7.size; have iv8 := iv8.next hb7; have iv11 := iv11.next hb7))
    go_upto_region 18 with (first
      | (go_at_call 16; refine (markI_any 1 iv11 (by omega) (by omega) (by omega)).mono ?_; rintro e v9 ⟨rfl, im, oo9⟩; have hbw := hbw.trans (oo9.below (fun g hg => by have := o11 g hg; omega) hbw.size); have z9 := oo9.size; have iv8 := iv8.onlyO oo9 (fun g hg e => by have := o8 g hg; have := o11 g e; omega); clear iv11))
    have hq : decide ((1 : Int) + (ys.length : Int) < 0) = false := decide_eq_false (by omega)
    go_upto_region 24 with (first
      | (go_at_call 17; refine (heldI_any 1 im (by omega) (by omega) (by omega)).mono ?_; rintro e v10 ⟨rfl, hb10⟩; have hbw := below_step hbw hb10; have z10 := hb10.size; have iv8 := iv8.next hb10; have im := im.next hb10))
    go_upto_region 25 with (first
      | (go_at_call 11; refine (toClassS_any cap0 (hs0.here hbw) hs).mono ?_; rintro e vY ⟨gY, rfl, hY0, hY1, fY, hbY⟩; have hbw := below_step hbw hbY; have zhbY := hbY.size; have iv8 := iv8.next hbY; have im := im.next hbY)
      | (go_at_call 21; refine (iUnder_any xs0.length a1 (fY.quad hY1)).mono ?_; rintro e v12 ⟨a12, n12, c12, rfl, iv12, hb12⟩; rw [HY.out] at iv12; have hbw := below_step hbw hb12; have iv8 := iv8.next hb12; have im := im.next hb12))
    go_wp2_with (first
      | (go_at_call 13; refine (eqI_any iv12 iv8 (by omega)).mono ?_; rintro e v13 ⟨rfl, hb13⟩; rw [show decide (ys = ys) = true from decide_eq_true rfl]; have hbw := below_step hbw hb13; have im := im.next hb13)
      | (go_at_call 17; refine (heldI_any 1 im (by omega) (by omega) (by omega)).mono ?_; rintro e v14 ⟨rfl, hb14⟩; have hbw := below_step hbw hb14))
    go_ret
    exact ⟨rfl, hbw⟩
  · have hz : (if xs0.length ≤ 1048576 then 1048576 - (xs0.length : Int) else -1) = -1 := if_neg hs
    go_enter Try.func5, Try.ntmps5
    go_wp2_with (first | (go_at_call 9; refine (szClassS_any _ _ _ _ hl).mono ?_; rintro e v1 ⟨rfl, rfl⟩; rw [hz]))
    go_ret
    exact ⟨rfl, Below.refl _ _⟩

/-! ### THE ROW's STEP -/
set_option maxRecDepth 100000 in
theorem lifted (os : Os) (started : os.Started) (H : Type) (enc : TypeId × Value → H) :
    ReturnsInHanded {} Try.checked os 5 .any (Rows.fnExactUnderSpec.pre6 enc Try.prog Try.f5 Rows.fnExactUnderRow.domain false) (Rows.fnExactUnderSpec.post enc Try.prog Try.f5 false true false false) := by
  refine returnsInHanded_of_change (C := Try.checked) own started (by kernel_rfl) Try.func5
    (ChangeSpec.witness6 (enc := enc) (C := Try.checked) false ⟨#[], #[.slice none 0 0, .int .i64 0], []⟩ 8 (by kernel_rfl) (by kernel_rfl) (by kernel_rfl) (by kernel_rfl)) ?_
  intro W base args ds gs before hval0 hW hcnd _
  have hval : ∀ (j : Nat) t v, Try.f5.params[j]? = some t → args[j]? = some v → Value.okWide Try.prog W .any base t v := hval0
  have hW' := hW
  have hlt := hW'.lt
  obtain ⟨p, q, hA0, hV, rfl, hfz, hnd⟩ := hW
  have hA : DataW.TrodAll enc Try.prog W 0 (fun _ => true) true Try.f5.params.toList args.toList ds p := hA0
  rw [Try.params5] at hA hval
  have hR := hA
  obtain ⟨v0, vs0, d0, ds0, p0, q0, hargs, rfl, rfl, h0, r0⟩ := trodAll_cons hA
  obtain ⟨v1, vs1, d1, ds1, p1, q1, rfl, rfl, rfl, h1, r1⟩ := trodAll_cons r0
  obtain ⟨rfl, rfl, rfl⟩ := trodAll_nil r1
  obtain rfl : args = #[v0, v1] := by cases args; simp_all
  obtain ⟨rfl, rfl⟩ := trodVars_none hV
  obtain ⟨a0, cap0, xs0, rfl, hs0, hi0, hn0, hc0, hm0⟩ := open_classS (hval 0 22 v0 rfl rfl) h0
  obtain ⟨a1, rfl, rfl, rfl, w1⟩ := open_int Try.underlying2 (hval 1 2 v1 rfl rfl) h1
  clear hA0 hval0
  refine (walk W a0 cap0 xs0 hs0 hi0 hn0 hc0 hm0 a1 w1).mono fun e W' ⟨he, hg⟩ => ?_
  subst he
  exact ⟨_, rfl, _, _, _, [], _, [], hW', (trodAll_cons_mk (shut_bool Try.underlying4 _) trodAll_mk0), trodAll_after table_ok hg (by decide) hR (fun x hx => hlt x (List.mem_append.2 (.inl hx))), rfl, hg.frame _, fun h => by cases h⟩

theorem over : Rows.fnExactUnderRow.holds Try.pinned (OpenSpec.ofChange Rows.fnExactUnderSpec) :=
  OpenClaim.holds_of_wide 5 Try.f5 rfl rfl rfl rfl rfl rfl rfl ⟨rfl, rfl, rfl, rfl, rfl⟩ rfl rfl rfl rfl rfl (by kernel_rfl) Try.func5 (by kernel_rfl)
    (of_decide_eq_true (by kernel_rfl)) (by unfold Func.isWrapper; first | (rw [if_pos (by decide +kernel)]; kernel_rfl) | (rw [if_neg (by decide +kernel)]; exact ⟨rfl, rfl⟩))
    (fun os started H enc _ => lifted os started H enc)

theorem proved : Rows.FnExactUnderSaid := over
#print axioms proved
end Go.Proofs.Ytbpmnldlgmpfcal.fnExactUnder
namespace Go.Proofs.Ytbpmnldlgmpfcal
theorem fnExactUnder_holds : Rows.FnExactUnderSaid := fnExactUnder.proved
#print axioms fnExactUnder_holds
end Go.Proofs.Ytbpmnldlgmpfcal
