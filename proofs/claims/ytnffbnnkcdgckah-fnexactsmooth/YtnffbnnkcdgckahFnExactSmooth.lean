/- Proved: at every three floats impl.Smooth answers as spec.Smooth does (the law FnExactSmooth returns true and its arguments read as before); no condition. -/
import Derived.Test.YtnffbnnkcdgckahRows
import Derived.WalkKit
import Derived.ProofKit
import Derived.OpenShut
import Derived.ShutString
import Derived.Below
import Derived.Laws.Cover2
import Derived.Test.YtnffbnnkcdgckahImplRate
import Derived.Test.YtnffbnnkcdgckahSame
namespace Go.Proofs.Ytnffbnnkcdgckah.fnExactSmooth
open Go.ChangeShapes Go.WideShapes Go.ChangeAt Go.RowKit
set_option linter.unusedVariables false

theorem own : ownKnob Try.prog.godebug = none := by kernel_rfl

theorem below_step {w w1 w2 : World} (h : Below w.heap.size w w1) (k : Below w1.heap.size w1 w2) : Below w.heap.size w w2 := h.trans (k.mono h.size)
theorem smoothO_lt {o x p r : Nat} (lo : o < 18446744073709551616) (lx : x < 18446744073709551616) (h : smoothO o x p = some r) : r < 18446744073709551616 := by
  unfold smoothO at h
  split at h
  · cases h; exact lx
  · split at h
    · cases h; exact lo
    · obtain ⟨d, _, h2⟩ := Option.bind_eq_some_iff.1 h
      obtain ⟨q, _, h3⟩ := Option.bind_eq_some_iff.1 h2
      exact Ieee.double.add_lt h3

/-! ### STEP 1: the walk -/
theorem walk (a0 : Nat) (a1 : Nat) (a2 : Nat) (w0 : (Lit.float .f64 a0).wf = true) (w1 : (Lit.float .f64 a1).wf = true) (w2 : (Lit.float .f64 a2).wf = true) (w : World) :
    Calls Try.prog 7 #[.float .f64 a0, .float .f64 a1, .float .f64 a2] w fun e w' => e = .returned (.bool true) ∧ Below w.heap.size w w' := by
  have l0 : a0 < 18446744073709551616 := by simpa [Lit.wf] using w0
  have l1 : a1 < 18446744073709551616 := by simpa [Lit.wf] using w1
  have cv := run_same_float
  go_enter Try.func7, Try.ntmps7
  go_wp2_with (first
    | (go_at_call 18; refine (implSmooth_any _ _ _ _).mono ?_; rintro e w2 ⟨s, rfl, ht, hb2⟩; have HT : Hid (smoothO a0 a1 a2 = some s ∨ smoothO a0 a1 a2 = none ∧ isNan s = true) := ht; clear ht; have hb := below_step hb hb2)
    | (go_at_call 17; refine (specSmooth_any _ _ _ _).mono ?_; rintro e w1 ⟨r, rfl, hr, hb⟩; have HR : Hid (smoothO a0 a1 a2 = some r ∨ smoothO a0 a1 a2 = none ∧ isNan r = true) := hr; clear hr)
    | (go_at_call 19; rcases HR.out with hr | ⟨hr, nr⟩ <;> rcases HT.out with ht | ⟨ht, nt⟩ <;> rw [hr] at ht <;> first | (cases ht; done) | (obtain rfl := Option.some.inj ht; refine (same_self _ _ (smoothO_lt l0 l1 hr)).mono ?_; rintro e w3 ⟨rfl, rfl⟩) | (refine (same_nan _ _ _ nt nr).mono ?_; rintro e w3 ⟨rfl, rfl⟩)))
  all_goals go_ret
  all_goals exact ⟨rfl, hb⟩

/-! ### THE ROW's STEP -/
set_option maxRecDepth 100000 in
theorem lifted (os : Os) (started : os.Started) (H : Type) (enc : TypeId × Value → H) :
    ReturnsInHanded {} Try.checked os 7 .any (Rows.fnExactSmoothSpec.pre6 enc Try.prog Try.f7 Rows.fnExactSmoothRow.domain false) (Rows.fnExactSmoothSpec.post enc Try.prog Try.f7 false true false false) := by
  refine returnsInHanded_of_change (C := Try.checked) own started (by kernel_rfl) Try.func7
    (ChangeSpec.witness6 (enc := enc) (C := Try.checked) false ⟨#[], #[.float .f64 0, .float .f64 0, .float .f64 0], []⟩ 8 (by kernel_rfl) (by kernel_rfl) (by kernel_rfl) (by kernel_rfl)) ?_
  intro W base args ds gs before hval0 hW hcnd _
  have hval : ∀ (j : Nat) t v, Try.f7.params[j]? = some t → args[j]? = some v → Value.okWide Try.prog W .any base t v := hval0
  have hW' := hW
  obtain ⟨p, q, hA0, hV, rfl, hfz, hnd⟩ := hW
  have hA : DataW.TrodAll enc Try.prog W 0 (fun _ => true) true Try.f7.params.toList args.toList ds p := hA0
  rw [Try.params7] at hA hval
  obtain ⟨v0, vs0, d0, ds0, p0, q0, hargs, rfl, rfl, h0, r0⟩ := trodAll_cons hA
  obtain ⟨v1, vs1, d1, ds1, p1, q1, rfl, rfl, rfl, h1, r1⟩ := trodAll_cons r0
  obtain ⟨v2, vs2, d2, ds2, p2, q2, rfl, rfl, rfl, h2, r2⟩ := trodAll_cons r1
  obtain ⟨rfl, rfl, rfl⟩ := trodAll_nil r2
  obtain rfl : args = #[v0, v1, v2] := by cases args; simp_all
  obtain ⟨rfl, rfl⟩ := trodVars_none hV
  obtain ⟨a0, rfl, rfl, rfl, w0⟩ := open_float Try.underlying26 (hval 0 26 v0 rfl rfl) h0
  obtain ⟨a1, rfl, rfl, rfl, w1⟩ := open_float Try.underlying26 (hval 1 26 v1 rfl rfl) h1
  obtain ⟨a2, rfl, rfl, rfl, w2⟩ := open_float Try.underlying26 (hval 2 26 v2 rfl rfl) h2
  clear hA0 hval0
  refine (walk a0 a1 a2 w0 w1 w2 W).mono fun e W' ⟨he, hg⟩ => ?_
  subst he
  exact ⟨_, rfl, _, _, _, [], _, [], hW', (trodAll_cons_mk (shut_bool Try.underlying4 _) trodAll_mk0), (trodAll_cons_mk (shut_float Try.underlying26 w0) (trodAll_cons_mk (shut_float Try.underlying26 w1) (trodAll_cons_mk (shut_float Try.underlying26 w2) trodAll_mk0))), rfl, hg.frame _, fun h => by cases h⟩

theorem over : Rows.fnExactSmoothRow.holds Try.pinned (OpenSpec.ofChange Rows.fnExactSmoothSpec) :=
  OpenClaim.holds_of_wide 7 Try.f7 rfl rfl rfl rfl rfl rfl rfl ⟨rfl, rfl, rfl, rfl, rfl⟩ rfl rfl rfl rfl rfl (by kernel_rfl) Try.func7 (by kernel_rfl)
    (of_decide_eq_true (by kernel_rfl)) (by unfold Func.isWrapper; first | (rw [if_pos (by decide +kernel)]; kernel_rfl) | (rw [if_neg (by decide +kernel)]; exact ⟨rfl, rfl⟩))
    (fun os started H enc _ => lifted os started H enc)

theorem proved : Rows.FnExactSmoothSaid := over
#print axioms proved
end Go.Proofs.Ytnffbnnkcdgckah.fnExactSmooth
namespace Go.Proofs.Ytnffbnnkcdgckah
theorem fnExactSmooth_holds : Rows.FnExactSmoothSaid := fnExactSmooth.proved
#print axioms fnExactSmooth_holds
end Go.Proofs.Ytnffbnnkcdgckah
