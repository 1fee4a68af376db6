/- Proved: at every Turns impl.Waiting answers as spec.Waiting does and writes nothing into its argument (the law FnExactWaiting returns true and its argument reads as before); no condition. -/
import Derived.Test.YtacahpmcmfmgkanRows
import Derived.WalkKit
import Derived.ProofKit
import Derived.OpenShut
import Derived.ShutString
import Derived.Below
import Derived.Laws.Cover2
import Derived.Test.YtacahpmcmfmgkanWaits
import Derived.Test.YtacahpmcmfmgkanFlwOpen
import Derived.Test.YtacahpmcmfmgkanFlwTo
import Derived.Test.YtacahpmcmfmgkanFlwEq
import Derived.Test.YtacahpmcmfmgkanFrame
import Derived.Deep.RegionHeld3
import Derived.Deep.DeepCutAuto
namespace Go.Proofs.Ytacahpmcmfmgkan.fnExactWaiting
open Go.ChangeShapes Go.WideShapes Go.ChangeAt Go.RowKit
set_option linter.unusedVariables false

theorem own : ownKnob Try.prog.godebug = none := by kernel_rfl

set_option linter.unusedSimpArgs false
theorem sum_of {fs : List F8} {f : F8} (h : f ∈ fs) : f.2.2.length ≤ sumL fs fs.length := by
  obtain ⟨k, hk, rfl⟩ := List.mem_iff_getElem.1 h
  have h1 := sumL_next hk
  have h2 := sumL_mono fs (show k + 1 ≤ fs.length by omega)
  omega
theorem eq_all {xs : List F8} {t : Int} {f : Bool} : decide (xs = xs ∧ t = t ∧ f = f) = true := decide_eq_true ⟨rfl, rfl, rfl⟩

/-! ### STEP 1: the walk -/
set_option maxHeartbeats 16000000 in
theorem walk (w : World) (a0 : Option Addr) (cap0 : Nat) (fs0 : List F8) (at0 : Int) (fr0 : Bool) (hf0 : Fls w.heap.size w a0 fs0) (hm0 : fs0.length ≤ maxLen) (hl0 : ∀ f ∈ fs0, f.2.2.length ≤ maxLen) :
    Calls Try.prog 5 #[.agg #[.slice a0 fs0.length cap0, .int .i64 at0, .bool fr0]] w fun e w' => e = .returned (.bool true) ∧ Below w.heap.size w w' := by
  by_cases hs : fs0.length + sumL fs0 fs0.length ≤ 1048576
  · have hz : (if fs0.length + sumL fs0 fs0.length ≤ 1048576 then 1048576 - (fs0.length : Int) - (sumL fs0 fs0.length : Int) else -1) = 1048576 - (fs0.length : Int) - (sumL fs0 fs0.length : Int) := if_pos hs
    have hz' : (0 : Int) ≤ 1048576 - (fs0.length : Int) - (sumL fs0 fs0.length : Int) := by omega
    have hsT : fs0.length ≤ 1048576 := by omega
    have hsS : ∀ f ∈ fs0, f.2.2.length ≤ 1048576 := fun f hf => by have := sum_of hf; omega
    have hb0 : ∀ f ∈ fs0, f.2.2.length ≤ 4611686018427387904 := fun f hf => by have := hsS f hf; omega
    have hn0 : fs0.length ≤ 4611686018427387904 := by omega
    obtain ⟨R, hR⟩ : ∃ R : Int, 1048576 - (fs0.length : Int) - (sumL fs0 fs0.length : Int) = R := ⟨_, rfl⟩
    have HZ : Hid ((if fs0.length + sumL fs0 fs0.length ≤ 1048576 then 1048576 - (fs0.length : Int) - (sumL fs0 fs0.length : Int) else -1) = R) := hz.trans hR
    rw [hR] at hz'
    have HS : Hid (fs0.length + sumL fs0 fs0.length ≤ 1048576) := hs
    clear hz hR hs
    have C0 : Hid (Cells (w.alloc (.cells #[.slice a0 fs0.length cap0, .int .i64 at0, .bool fr0] 24)) [(w.heap.size, 0, .slice a0 fs0.length cap0), (w.heap.size, 1, .int .i64 at0), (w.heap.size, 2, .bool fr0)]) := ⟨⟨by simp, by go_simp⟩, ⟨by simp, by go_simp⟩, ⟨by simp, by go_simp⟩, trivial⟩
    obtain ⟨X, hX⟩ : ∃ X, waitOf fs0 at0 fr0 = X := ⟨_, rfl⟩
    have HX : Hid (waitOf fs0 at0 fr0 = X) := hX
    clear hX
    go_enter Try.func5, Try.ntmps5
    go_upto_region 5 with (first
      | (go_at_call 6; refine (szTurns_any cap0 at0 fr0 (hf0.here (newB _ _)) hm0 hl0).mono ?_; rintro e v1 ⟨rfl, hb1⟩; rw [HZ.out]; have C : Hid (Cells v1 [(w.heap.size, 0, .slice a0 fs0.length cap0), (w.heap.size, 1, .int .i64 at0), (w.heap.size, 2, .bool fr0)]) := C0.out.next hb1; have hbw := below_step (newB w _) hb1; have ⟨⟨kz0, k0⟩, ⟨kz1, k1⟩, ⟨kz2, k2⟩, _⟩ := C.out))
    clear C0
    go_upto_region 6 with (first
      | (go_at_call 8; refine (toTurns_any cap0 at0 fr0 (hf0.here hbw) hsT hsS).mono ?_; rintro e vF ⟨gF, rfl, tF, hbF⟩; have hbw := below_step hbw hbF; have C : Hid (Cells vF [(w.heap.size, 0, .slice a0 fs0.length cap0), (w.heap.size, 1, .int .i64 at0), (w.heap.size, 2, .bool fr0)]) := C.out.next hbF; have ⟨⟨kz0, k0⟩, ⟨kz1, k1⟩, ⟨kz2, k2⟩, _⟩ := C.out)
      | (go_at_call 18; refine (specWaiting_any fs0.length at0 fr0 tF.fls.2 hn0 hb0).mono ?_; rintro e vP ⟨rfl, hbP⟩; rw [HX.out]; have hbw := below_step hbw hbP; have C : Hid (Cells vP [(w.heap.size, 0, .slice a0 fs0.length cap0), (w.heap.size, 1, .int .i64 at0), (w.heap.size, 2, .bool fr0)]) := C.out.next hbP; have ⟨⟨kz0, k0⟩, ⟨kz1, k1⟩, ⟨kz2, k2⟩, _⟩ := C.out))
    go_upto_region 7 with (first
      | (go_at_call 8; refine (toTurns_any cap0 at0 fr0 (hf0.here hbw) hsT hsS).mono ?_; rintro e vX ⟨gx, rfl, tX, hbF⟩; have hbw := below_step hbw hbF; have C : Hid (Cells vX [(w.heap.size, 0, .slice a0 fs0.length cap0), (w.heap.size, 1, .int .i64 at0), (w.heap.size, 2, .bool fr0)]) := C.out.next hbF; have ⟨⟨kz0, k0⟩, ⟨kz1, k1⟩, ⟨kz2, k2⟩, _⟩ := C.out))
    obtain ⟨v2, hv⟩ : ∃ v, v = vX.alloc (.cells #[.slice (some ⟨gx, 0, none⟩) fs0.length fs0.length, .int .i64 at0, .bool fr0] 28) := ⟨_, rfl⟩
    rw [← hv]
    have hbA : Below vX.heap.size vX v2 := by rw [hv]; exact newB _ _
    have cA0 : v2.cell? ⟨vX.heap.size, 0, none⟩ = some (.slice (some ⟨gx, 0, none⟩) fs0.length fs0.length) := by rw [hv]; go_simp
    have cA1 : v2.cell? ⟨vX.heap.size, 1, none⟩ = some (.int .i64 at0) := by rw [hv]; go_simp
    have cA2 : v2.cell? ⟨vX.heap.size, 2, none⟩ = some (.bool fr0) := by rw [hv]; go_simp
    have zA : vX.heap.size < v2.heap.size := by rw [hv]; simp
    clear hv
    obtain ⟨bx, hbx⟩ : ∃ b, b = vX.heap.size := ⟨_, rfl⟩
    rw [← hbx] at cA0 cA1 cA2 ⊢
    have ybx : bx < v2.heap.size := by omega
    have lbx : vX.heap.size ≤ bx ∧ bx ≤ vX.heap.size := by omega
    clear hbx
    have hbw := below_step hbw hbA
    have tX := tX.next hbA
    have C : Hid (Cells v2 [(w.heap.size, 0, .slice a0 fs0.length cap0), (w.heap.size, 1, .int .i64 at0), (w.heap.size, 2, .bool fr0), (bx, 0, .slice (some ⟨gx, 0, none⟩) fs0.length fs0.length), (bx, 1, .int .i64 at0), (bx, 2, .bool fr0)]) := by
      obtain ⟨d0, d1, d2, _⟩ := C.out.next hbA
      exact ⟨d0, d1, d2, ⟨ybx, cA0⟩, ⟨ybx, cA1⟩, ⟨ybx, cA2⟩, trivial⟩
    clear kz0 k0 kz1 k1 kz2 k2 cA0 cA1 cA2 zA hbA tF
    have ⟨⟨kz0, k0⟩, ⟨kz1, k1⟩, ⟨kz2, k2⟩, ⟨kz3, k3⟩, ⟨kz4, k4⟩, ⟨kz5, k5⟩, _⟩ := C.out
    go_upto_region 10 with (first
      | (go_at_call 19; refine (iWaiting_any fs0.length at0 fr0 tX.fls.2 hn0 hb0).mono ?_; rintro e v4 ⟨rfl, hbP⟩; rw [HX.out]; have hbw := below_step hbw hbP; have C : Hid (Cells v4 [(w.heap.size, 0, .slice a0 fs0.length cap0), (w.heap.size, 1, .int .i64 at0), (w.heap.size, 2, .bool fr0), (bx, 0, .slice (some ⟨gx, 0, none⟩) fs0.length fs0.length), (bx, 1, .int .i64 at0), (bx, 2, .bool fr0)]) := C.out.next hbP; have ⟨⟨kz0, k0⟩, ⟨kz1, k1⟩, ⟨kz2, k2⟩, ⟨kz3, k3⟩, ⟨kz4, k4⟩, ⟨kz5, k5⟩, _⟩ := C.out; have tX := tX.next hbP))
    have tx4 := tX
    clear tX
    go_region_held3 (fun w' => w'.cell? ⟨w.heap.size, 0, none⟩ = some (.slice a0 fs0.length cap0) ∧ w'.cell? ⟨w.heap.size, 1, none⟩ = some (.int .i64 at0) ∧ w'.cell? ⟨w.heap.size, 2, none⟩ = some (.bool fr0) ∧ w'.cell? ⟨bx, 0, none⟩ = some (.slice (some ⟨gx, 0, none⟩) fs0.length fs0.length) ∧ w'.cell? ⟨bx, 1, none⟩ = some (.int .i64 at0) ∧ w'.cell? ⟨bx, 2, none⟩ = some (.bool fr0)) (first | (refine ⟨?_, ?_, ?_, ?_, ?_, ?_⟩ <;> first | assumption | (simp only [World.cell?_drew]; assumption)) | go_keep)
      (first
        | (go_at_call 8; refine (toTurns_any cap0 at0 fr0 (hf0.here (by go_grown)) hsT hsS).mono ?_; rintro e vF ⟨gF, rfl, tF, hbF⟩; have hr := below_step (w := v4) (by go_grown) hbF; have hbw := below_step (w := w) (by go_grown) hbF; have j0 := (below_cells hr _ _ kz0).trans k0; have j1 := (below_cells hr _ _ kz1).trans k1; have j2 := (below_cells hr _ _ kz2).trans k2; have j3 := (below_cells hr _ _ kz3).trans k3; have j4 := (below_cells hr _ _ kz4).trans k4; have j5 := (below_cells hr _ _ kz5).trans k5)
        | (go_at_call 10; refine (eqTurns_any fs0.length fs0.length at0 at0 fr0 fr0 (tx4.next hr).fls.2 tF.fls.2 hn0 hb0).mono ?_; rintro e vE ⟨rfl, hbE⟩; rw [eq_all]; have hr := below_step hr hbE; have hbw := below_step hbw hbE; have j0 := (below_cells hr _ _ kz0).trans k0; have j1 := (below_cells hr _ _ kz1).trans k1; have j2 := (below_cells hr _ _ kz2).trans k2; have j3 := (below_cells hr _ _ kz3).trans k3; have j4 := (below_cells hr _ _ kz4).trans k4; have j5 := (below_cells hr _ _ kz5).trans k5))
    all_goals go_wp2
    all_goals go_ret
    all_goals exact ⟨rfl, hbw⟩
  · have hz : (if fs0.length + sumL fs0 fs0.length ≤ 1048576 then 1048576 - (fs0.length : Int) - (sumL fs0 fs0.length : Int) else -1) = -1 := if_neg hs
    have HZ : Hid ((if fs0.length + sumL fs0 fs0.length ≤ 1048576 then 1048576 - (fs0.length : Int) - (sumL fs0 fs0.length : Int) else -1) = -1) := hz
    clear hz hs
    go_enter Try.func5, Try.ntmps5
    go_wp2_with (first
      | (go_at_call 6; refine (szTurns_any cap0 at0 fr0 (hf0.here (newB _ _)) hm0 hl0).mono ?_; rintro e v1 ⟨rfl, hb1⟩; rw [HZ.out]))
    go_ret
    exact ⟨rfl, below_step (newB w _) hb1⟩

/-! ### THE ROW's STEP -/
set_option maxRecDepth 100000 in
theorem lifted (os : Os) (started : os.Started) (H : Type) (enc : TypeId × Value → H) :
    ReturnsInHanded {} Try.checked os 5 .any (Rows.fnExactWaitingSpec.pre6 enc Try.prog Try.f5 Rows.fnExactWaitingRow.domain false) (Rows.fnExactWaitingSpec.post enc Try.prog Try.f5 false true false false) := by
  refine returnsInHanded_of_change (C := Try.checked) own started (by kernel_rfl) Try.func5
    (ChangeSpec.witness6 (enc := enc) (C := Try.checked) false ⟨#[], #[.agg #[.slice none 0 0, .int .i64 0, .bool false]], []⟩ 8 (by kernel_rfl) (by kernel_rfl) (by kernel_rfl) (by kernel_rfl)) ?_
  intro W base args ds gs before hval0 hW hcnd _
  have hval : ∀ (j : Nat) t v, Try.f5.params[j]? = some t → args[j]? = some v → Value.okWide Try.prog W .any base t v := hval0
  have hW' := hW
  have hlt := hW'.lt
  obtain ⟨p, q, hA0, hV, rfl, hfz, hnd⟩ := hW
  have hA : DataW.TrodAll enc Try.prog W 0 (fun _ => true) true Try.f5.params.toList args.toList ds p := hA0
  rw [Try.params5] at hA hval
  have hR := hA
  obtain ⟨v0, vs0, d0, ds0, p0, q0, hargs, rfl, rfl, h0, r0⟩ := trodAll_cons hA
  obtain ⟨rfl, rfl, rfl⟩ := trodAll_nil r0
  obtain rfl : args = #[v0] := by cases args; simp_all
  obtain ⟨rfl, rfl⟩ := trodVars_none hV
  obtain ⟨a0, cap0, fs0, at0, fr0, rfl, hf0, hm0, hl0⟩ := open_turns (hval 0 24 v0 rfl rfl) h0
  clear hA0 hval0
  refine (walk W a0 cap0 fs0 at0 fr0 hf0 hm0 hl0).mono fun e W' ⟨he, hg⟩ => ?_
  subst he
  exact ⟨_, rfl, _, _, _, [], _, [], hW', (trodAll_cons_mk (shut_bool Try.underlying4 _) trodAll_mk0), trodAll_after table_ok hg (by decide) hR (fun x hx => hlt x (List.mem_append.2 (.inl hx))), rfl, hg.frame _, fun h => by cases h⟩

theorem over : Rows.fnExactWaitingRow.holds Try.pinned (OpenSpec.ofChange Rows.fnExactWaitingSpec) :=
  OpenClaim.holds_of_wide 5 Try.f5 rfl rfl rfl rfl rfl rfl rfl ⟨rfl, rfl, rfl, rfl, rfl⟩ rfl rfl rfl rfl rfl (by kernel_rfl) Try.func5 (by kernel_rfl)
    (of_decide_eq_true (by kernel_rfl)) (by unfold Func.isWrapper; first | (rw [if_pos (by decide +kernel)]; kernel_rfl) | (rw [if_neg (by decide +kernel)]; exact ⟨rfl, rfl⟩))
    (fun os started H enc _ => lifted os started H enc)

theorem proved : Rows.FnExactWaitingSaid := over
#print axioms proved
end Go.Proofs.Ytacahpmcmfmgkan.fnExactWaiting
namespace Go.Proofs.Ytacahpmcmfmgkan
theorem fnExactWaiting_holds : Rows.FnExactWaitingSaid := fnExactWaiting.proved
#print axioms fnExactWaiting_holds
end Go.Proofs.Ytacahpmcmfmgkan
