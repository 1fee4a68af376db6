/- Proved: at every wheel impl.WheelOk answers as spec.WheelOk does and writes nothing into it (the law FnExactWheelOk returns true and its arguments read as before); no condition. -/
import Derived.Test.YtcmgaaopkhjelakRows
import Derived.WalkKit
import Derived.ProofKit
import Derived.OpenShut
import Derived.ShutString
import Derived.Below
import Derived.Laws.Cover2
import Derived.Test.YtcmgaaopkhjelakWheelBoth
import Derived.Deep.RegionHeld3
import Derived.Deep.DeepCutAuto
namespace Go.Proofs.Ytcmgaaopkhjelak.fnExactWheelOk
open Go.ChangeShapes Go.WideShapes Go.ChangeAt Go.RowKit
set_option linter.unusedVariables false

theorem own : ownKnob Try.prog.godebug = none := by kernel_rfl

set_option linter.unusedSimpArgs false

/-! ### STEP 1: the walk -/
set_option maxHeartbeats 16000000 in
theorem walk (w : World) (t0 : Int) (a0 : Option Addr) (cap0 : Nat) (xs0 : List (Int × Int)) (it0 : I64 t0) (hs0 : Smp w.heap.size w a0 xs0) (hi0 : ∀ x ∈ xs0, I64 x.1 ∧ I64 x.2) (hn0 : a0 = none → xs0 = [] ∧ cap0 = 0) (hc0 : xs0.length ≤ cap0) (hm0 : cap0 ≤ maxLen) :
    Calls Try.prog 3 #[.agg #[.int .i64 t0, .slice a0 xs0.length cap0]] w fun e w' => e = .returned (.bool true) ∧ Below w.heap.size w w' := by
  have hl : (xs0.length : Int) ≤ 9223372036854775807 := by unfold maxLen at hm0; omega
  by_cases hs : xs0.length ≤ 1048576
  · have hz : (if xs0.length ≤ 1048576 then 1048576 - (xs0.length : Int) else -1) = 1048576 - (xs0.length : Int) := if_pos hs
    have hz' : (0 : Int) ≤ 1048576 - (xs0.length : Int) := by omega
    have C0 : Hid (Cells (w.alloc (.cells #[.int .i64 t0, .slice a0 xs0.length cap0] 24)) [(w.heap.size, 0, .int .i64 t0), (w.heap.size, 1, .slice a0 xs0.length cap0)]) := ⟨⟨by simp, by go_simp⟩, ⟨by simp, by go_simp⟩, trivial⟩
    go_enter Try.func3, Try.ntmps3
    go_upto_region 5 with (first
      | (go_at_call 8; refine (szWheel_any _ _ _ _ _ hl).mono ?_; rintro e v1 ⟨rfl, hb1⟩; rw [hz]; have C : Hid (Cells v1 [(w.heap.size, 0, .int .i64 t0), (w.heap.size, 1, .slice a0 xs0.length cap0)]) := C0.out.next hb1; have hbw := below_step (w := w) (by go_grown) hb1; have ⟨⟨kz0, k0⟩, ⟨kz1, k1⟩, _⟩ := C.out; have zw := hbw.size))
    clear C0
    go_upto_region 6 with (first
      | (go_at_call 10; refine (toWheel_any t0 cap0 (hs0.here (by go_grown)) hs).mono ?_; rintro e vF ⟨gF, rfl, hg0, hg1, fF, hbF⟩; have hbw := below_step (w := w) (by go_grown) hbF; have C : Hid (Cells vF [(w.heap.size, 0, .int .i64 t0), (w.heap.size, 1, .slice a0 xs0.length cap0)]) := C.out.next (below_step (by go_grown) hbF); have ⟨⟨kz0, k0⟩, ⟨kz1, k1⟩, _⟩ := C.out; have zw := hbw.size; have zF := hbF.size; (try simp at hg0))
      | (go_at_call 9; refine (specWheelOk_any t0 _ (fF.smp hg1) hl).mono ?_; rintro e vP ⟨fw, rfl, hfw, hbP⟩; have HFW : Hid (fw = true ↔ WOk t0 xs0) := hfw; clear hfw; have hbw := below_step (w := w) (by go_grown) hbP; have C : Hid (Cells vP [(w.heap.size, 0, .int .i64 t0), (w.heap.size, 1, .slice a0 xs0.length cap0)]) := C.out.next (below_step (by go_grown) hbP); have ⟨⟨kz0, k0⟩, ⟨kz1, k1⟩, _⟩ := C.out; have zw := hbw.size))
    go_upto_region 7 with (first
      | (go_at_call 10; refine (toWheel_any t0 cap0 (hs0.here (by go_grown)) hs).mono ?_; rintro e vX ⟨gx, rfl, hg0, hg1, fF, hbF⟩; have hbw := below_step (w := w) (by go_grown) hbF; have C : Hid (Cells vX [(w.heap.size, 0, .int .i64 t0), (w.heap.size, 1, .slice a0 xs0.length cap0)]) := C.out.next (below_step (by go_grown) hbF); have ⟨⟨kz0, k0⟩, ⟨kz1, k1⟩, _⟩ := C.out; have zw := hbw.size; have zF := hbF.size; (try simp at hg0)))
    have fx := fF
    have hx0 := hg0
    have hx1 := hg1
    obtain ⟨v2, hv⟩ : ∃ v, v = vX.alloc (.cells #[.int .i64 t0, .slice (some ⟨gx, 0, none⟩) xs0.length xs0.length] 29) := ⟨_, rfl⟩
    rw [← hv]
    have hbA : Below vX.heap.size vX v2 := by rw [hv]; exact new_below _ _
    have cA0 : v2.cell? ⟨vX.heap.size, 0, none⟩ = some (.int .i64 t0) := by rw [hv]; go_simp
    have cA1 : v2.cell? ⟨vX.heap.size, 1, none⟩ = some (.slice (some ⟨gx, 0, none⟩) xs0.length xs0.length) := by rw [hv]; go_simp
    have zA : vX.heap.size < v2.heap.size := by rw [hv]; simp
    clear hv
    obtain ⟨b10, hb10⟩ : ∃ b, b = vX.heap.size := ⟨_, rfl⟩
    rw [← hb10] at cA0 cA1 ⊢
    have yb10 : b10 < v2.heap.size := by omega
    have lb10 : vX.heap.size ≤ b10 ∧ b10 ≤ vX.heap.size := by omega
    clear hb10
    have hbw := below_step hbw hbA
    have C : Hid (Cells v2 [(w.heap.size, 0, .int .i64 t0), (w.heap.size, 1, .slice a0 xs0.length cap0), (b10, 0, .int .i64 t0), (b10, 1, .slice (some ⟨gx, 0, none⟩) xs0.length xs0.length)]) := by
      obtain ⟨c0, c1, _⟩ := C.out.next hbA
      exact ⟨c0, c1, ⟨yb10, cA0⟩, ⟨yb10, cA1⟩, trivial⟩
    have ⟨⟨kz0, k0⟩, ⟨kz1, k1⟩, ⟨kz2, k2⟩, ⟨kz3, k3⟩, _⟩ := C.out
    have zw := hbw.size
    have fvx : FW v2 vP.heap.size (.slice (some ⟨gx, 0, none⟩) xs0.length xs0.length) xs0 := (show FW vX vP.heap.size _ xs0 from .inl ⟨gx, _, rfl, hx0, hx1, fx, Nat.le_refl _⟩).next hbA
    have sx : Smp v2.heap.size v2 (some ⟨gx, 0, none⟩) xs0 := (fx.smp hx1).here hbA
    go_upto_region 10 with (first
      | (go_at_call 11; refine (implWheelOk_any t0 _ (sx.here (by go_grown)) (Nat.le_refl _) (by intro e; cases e) hl).mono ?_; rintro e v4 ⟨fi, rfl, hfi, hbP⟩; obtain rfl : fi = fw := Bool.eq_iff_iff.2 (hfi.trans HFW.out.symm); clear hfi; have hbw := below_step (w := w) (by go_grown) hbP; have C : Hid (Cells v4 [(w.heap.size, 0, .int .i64 t0), (w.heap.size, 1, .slice a0 xs0.length cap0), (b10, 0, .int .i64 t0), (b10, 1, .slice (some ⟨gx, 0, none⟩) xs0.length xs0.length)]) := C.out.next (below_step (by go_grown) hbP); have ⟨⟨kz0, k0⟩, ⟨kz1, k1⟩, ⟨kz2, k2⟩, ⟨kz3, k3⟩, _⟩ := C.out; have fvx := fvx.next (below_step (by go_grown) hbP); have zw := hbw.size))
    have fvx4 := fvx
    clear C
    go_region_held3 (fun w' => w'.cell? ⟨w.heap.size, 0, none⟩ = some (.int .i64 t0) ∧ w'.cell? ⟨w.heap.size, 1, none⟩ = some (.slice a0 xs0.length cap0) ∧ w'.cell? ⟨b10, 0, none⟩ = some (.int .i64 t0) ∧ w'.cell? ⟨b10, 1, none⟩ = some (.slice (some ⟨gx, 0, none⟩) xs0.length xs0.length)) (first | (refine ⟨?_, ?_, ?_, ?_⟩ <;> first | assumption | (simp only [World.cell?_drew]; assumption)) | go_keep)
      (first
        | (go_at_call 10; refine (toWheel_any t0 cap0 (hs0.here (by go_grown)) hs).mono ?_; rintro e vF ⟨gF, rfl, hgF0, hgF1, fF, hbF⟩; (try simp at hgF0); have kc := below_cells hbF; have kf := below_frozens hbF; have hr := below_step (w := v4) (by go_grown) hbF; have hbw := below_step (w := w) (by go_grown) hbF; have zr := hr.size; have zw := hbw.size; have j0 := (below_cells hr _ _ kz0).trans k0; have j1 := (below_cells hr _ _ kz1).trans k1; have j2 := (below_cells hr _ _ kz2).trans k2; have j3 := (below_cells hr _ _ kz3).trans k3)
        | (go_at_call 12; refine (eqW_any t0 t0 (fvx4.next hr) (show FW vF _ _ xs0 from .inl ⟨gF, _, rfl, hgF0, hgF1, fF, Nat.le_refl _⟩) (by omega)).mono ?_; rintro e vE ⟨rfl, hbE⟩; rw [show (decide (t0 = t0) && decide (xs0 = xs0)) = true from by simp]; have kc := below_cells hbE; have kf := below_frozens hbE; have hr := below_step (w := v4) (by go_grown) hbE; have hbw := below_step (w := w) (by go_grown) hbE; have zr := hr.size; have zw := hbw.size; have j0 := (below_cells hr _ _ kz0).trans k0; have j1 := (below_cells hr _ _ kz1).trans k1; have j2 := (below_cells hr _ _ kz2).trans k2; have j3 := (below_cells hr _ _ kz3).trans k3))
    all_goals go_wp2
    all_goals go_ret
    all_goals exact ⟨rfl, hbw⟩
  · have hz : (if xs0.length ≤ 1048576 then 1048576 - (xs0.length : Int) else -1) = -1 := if_neg hs
    go_enter Try.func3, Try.ntmps3
    go_wp2_with (first
      | (go_at_call 8; refine (szWheel_any _ _ _ _ _ hl).mono ?_; rintro e v1 ⟨rfl, hb1⟩; rw [hz]; have hbw := below_step (w := w) (by go_grown) hb1)
      | go_in)
    go_ret
    exact ⟨rfl, hbw⟩

/-! ### THE ROW's STEP -/
set_option maxRecDepth 100000 in
theorem lifted (os : Os) (started : os.Started) (H : Type) (enc : TypeId × Value → H) :
    ReturnsInHanded {} Try.checked os 3 .any (Rows.fnExactWheelOkSpec.pre6 enc Try.prog Try.f3 Rows.fnExactWheelOkRow.domain false) (Rows.fnExactWheelOkSpec.post enc Try.prog Try.f3 false true false false) := by
  refine returnsInHanded_of_change (C := Try.checked) own started (by kernel_rfl) Try.func3
    (ChangeSpec.witness6 (enc := enc) (C := Try.checked) false ⟨#[], #[.agg #[.int .i64 0, .slice none 0 0]], []⟩ 8 (by kernel_rfl) (by kernel_rfl) (by kernel_rfl) (by kernel_rfl)) ?_
  intro W base args ds gs before hval0 hW hcnd _
  have hval : ∀ (j : Nat) t v, Try.f3.params[j]? = some t → args[j]? = some v → Value.okWide Try.prog W .any base t v := hval0
  have hW' := hW
  have hlt := hW'.lt
  obtain ⟨p, q, hA0, hV, rfl, hfz, hnd⟩ := hW
  have hA : DataW.TrodAll enc Try.prog W 0 (fun _ => true) true Try.f3.params.toList args.toList ds p := hA0
  rw [Try.params3] at hA hval
  have hR := hA
  obtain ⟨v0, vs0, d0, ds0, p0, q0, hargs, rfl, rfl, h0, r0⟩ := trodAll_cons hA
  obtain ⟨rfl, rfl, rfl⟩ := trodAll_nil r0
  obtain rfl : args = #[v0] := by cases args; simp_all
  obtain ⟨rfl, rfl⟩ := trodVars_none hV
  obtain ⟨t0, a0, cap0, xs0, rfl, it0, hs0, hi0, hn0, hc0, hm0⟩ := open_wheel (hval 0 24 v0 rfl rfl) h0
  clear hA0 hval0
  refine (walk W t0 a0 cap0 xs0 it0 hs0 hi0 hn0 hc0 hm0).mono fun e W' ⟨he, hg⟩ => ?_
  subst he
  exact ⟨_, rfl, _, _, _, [], _, [], hW', (trodAll_cons_mk (shut_bool Try.underlying4 _) trodAll_mk0), trodAll_after table_ok hg (by decide) hR (fun x hx => hlt x (List.mem_append.2 (.inl hx))), rfl, hg.frame _, fun h => by cases h⟩

theorem over : Rows.fnExactWheelOkRow.holds Try.pinned (OpenSpec.ofChange Rows.fnExactWheelOkSpec) :=
  OpenClaim.holds_of_wide 3 Try.f3 rfl rfl rfl rfl rfl rfl rfl ⟨rfl, rfl, rfl, rfl, rfl⟩ rfl rfl rfl rfl rfl (by kernel_rfl) Try.func3 (by kernel_rfl)
    (of_decide_eq_true (by kernel_rfl)) (by unfold Func.isWrapper; first | (rw [if_pos (by decide +kernel)]; kernel_rfl) | (rw [if_neg (by decide +kernel)]; exact ⟨rfl, rfl⟩))
    (fun os started H enc _ => lifted os started H enc)

theorem proved : Rows.FnExactWheelOkSaid := over
#print axioms proved
end Go.Proofs.Ytcmgaaopkhjelak.fnExactWheelOk
namespace Go.Proofs.Ytcmgaaopkhjelak
theorem fnExactWheelOk_holds : Rows.FnExactWheelOkSaid := fnExactWheelOk.proved
#print axioms fnExactWheelOk_holds
end Go.Proofs.Ytcmgaaopkhjelak
