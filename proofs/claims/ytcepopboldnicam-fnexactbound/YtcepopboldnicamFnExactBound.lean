/- Proved: at every Lend and all numbers impl.Bound answers as spec.Bound does and writes nothing into its argument (the law FnExactBound returns true and its arguments read as before); no condition. -/
import Derived.Test.YtcepopboldnicamRows
import Derived.WalkKit
import Derived.ProofKit
import Derived.OpenShut
import Derived.ShutString
import Derived.Below
import Derived.Laws.Cover2
import Derived.Test.YtcepopboldnicamSpecBound
import Derived.Test.YtcepopboldnicamGrpL
import Derived.Test.YtcepopboldnicamGrpA
import Derived.Deep.RegionHeld3
import Derived.Deep.DeepCutAuto
namespace Go.Proofs.Ytcepopboldnicam.fnExactBound
open Go.ChangeShapes Go.WideShapes Go.ChangeAt Go.RowKit
set_option linter.unusedVariables false

theorem own : ownKnob Try.prog.godebug = none := by kernel_rfl

set_option linter.unusedSimpArgs false

/-! ### STEP 1: the walk -/
set_option maxHeartbeats 16000000 in
theorem walk (w : World) (aT0 : Option Addr) (cT0 : Nat) (T0 : List Q4) (aO0 : Option Addr) (cO0 : Nat) (O0 : List Q4) (aP0 : Option Addr) (cP0 : Nat) (P0 : List Q4) (qT0 : Quad w.heap.size w aT0 T0) (qO0 : Quad w.heap.size w aO0 O0) (qP0 : Quad w.heap.size w aP0 P0) (mT0 : T0.length ≤ maxLen) (mO0 : O0.length ≤ maxLen) (mP0 : P0.length ≤ maxLen) (a1 : Int) (w1 : (Lit.int .i64 a1).wf = true) (a2 : Int) (w2 : (Lit.int .i64 a2).wf = true) :
    Calls Try.prog 6 #[.agg #[.slice aT0 T0.length cT0, .slice aO0 O0.length cO0, .slice aP0 P0.length cP0], .int .i64 a1, .int .i64 a2] w fun e w' => e = .returned (.bool true) ∧ Below w.heap.size w w' := by
  have hlT : (T0.length : Int) ≤ 9223372036854775807 := by unfold maxLen at mT0; omega
  have hlO : (O0.length : Int) ≤ 9223372036854775807 := by unfold maxLen at mO0; omega
  have hlP : (P0.length : Int) ≤ 9223372036854775807 := by unfold maxLen at mP0; omega
  by_cases hs : T0.length + O0.length + P0.length ≤ 1048576
  · have hz : (if T0.length + O0.length + P0.length ≤ 1048576 then 1048576 - (T0.length : Int) - (O0.length : Int) - (P0.length : Int) else -1) = 1048576 - (T0.length : Int) - (O0.length : Int) - (P0.length : Int) := if_pos hs
    have hz' : (0 : Int) ≤ 1048576 - (T0.length : Int) - (O0.length : Int) - (P0.length : Int) := by omega
    have hsT : T0.length ≤ 1048576 := by omega
    have hsO : O0.length ≤ 1048576 := by omega
    have hsP : P0.length ≤ 1048576 := by omega
    have C0 : Hid (Cells (w.alloc (.cells #[.slice aT0 T0.length cT0, .slice aO0 O0.length cO0, .slice aP0 P0.length cP0] 25)) [(w.heap.size, 0, .slice aT0 T0.length cT0), (w.heap.size, 1, .slice aO0 O0.length cO0), (w.heap.size, 2, .slice aP0 P0.length cP0)]) := ⟨⟨by simp, by go_simp⟩, ⟨by simp, by go_simp⟩, ⟨by simp, by go_simp⟩, trivial⟩
    obtain ⟨x, hx⟩ : ∃ x, boundAns T0 O0 P0 a1 a2 = x := ⟨_, rfl⟩
    have HX : Hid (boundAns T0 O0 P0 a1 a2 = x) := hx
    clear hx
    go_enter Try.func6, Try.ntmps6
    go_upto_region 5 with (first
      | (go_at_call 9; refine (szLend_any _ _ _ _ _ _ _ _ _ _ hlT hlO hlP).mono ?_; rintro e v1 ⟨rfl, hb1⟩; rw [hz]; have C : Hid (Cells v1 [(w.heap.size, 0, .slice aT0 T0.length cT0), (w.heap.size, 1, .slice aO0 O0.length cO0), (w.heap.size, 2, .slice aP0 P0.length cP0)]) := C0.out.next hb1; have hbw := below_step (w := w) (by go_grown) hb1; have ⟨⟨kz0, k0⟩, ⟨kz1, k1⟩, ⟨kz2, k2⟩, _⟩ := C.out; have zw := hbw.size))
    clear C0
    go_upto_region 6 with (first
      | (go_at_call 11; refine (toLend_any cT0 cO0 cP0 (qT0.here (by go_grown)) (qO0.here (by go_grown)) (qP0.here (by go_grown)) hsT hsO hsP).mono ?_; rintro e vF ⟨gT, gO, gP, rfl, lvF, hbF⟩; have hbw := below_step (w := w) (by go_grown) hbF; have C : Hid (Cells vF [(w.heap.size, 0, .slice aT0 T0.length cT0), (w.heap.size, 1, .slice aO0 O0.length cO0), (w.heap.size, 2, .slice aP0 P0.length cP0)]) := C.out.next (below_step (by go_grown) hbF); have ⟨⟨kz0, k0⟩, ⟨kz1, k1⟩, ⟨kz2, k2⟩, _⟩ := C.out; have zw := hbw.size; have zF := hbF.size)
      | (go_at_call 24; refine (specBound_any T0.length O0.length P0.length a1 a2 lvF.t.quad.2 lvF.o.quad.2 lvF.p.quad.2).mono ?_; rintro e vP ⟨rfl, hbP⟩; rw [HX.out]; have hbw := below_step (w := w) (by go_grown) hbP; have C : Hid (Cells vP [(w.heap.size, 0, .slice aT0 T0.length cT0), (w.heap.size, 1, .slice aO0 O0.length cO0), (w.heap.size, 2, .slice aP0 P0.length cP0)]) := C.out.next (below_step (by go_grown) hbP); have ⟨⟨kz0, k0⟩, ⟨kz1, k1⟩, ⟨kz2, k2⟩, _⟩ := C.out; have zw := hbw.size))
    go_upto_region 7 with (first
      | (go_at_call 11; refine (toLend_any cT0 cO0 cP0 (qT0.here (by go_grown)) (qO0.here (by go_grown)) (qP0.here (by go_grown)) hsT hsO hsP).mono ?_; rintro e vX ⟨gT, gO, gP, rfl, lvF, hbF⟩; have hbw := below_step (w := w) (by go_grown) hbF; have C : Hid (Cells vX [(w.heap.size, 0, .slice aT0 T0.length cT0), (w.heap.size, 1, .slice aO0 O0.length cO0), (w.heap.size, 2, .slice aP0 P0.length cP0)]) := C.out.next (below_step (by go_grown) hbF); have ⟨⟨kz0, k0⟩, ⟨kz1, k1⟩, ⟨kz2, k2⟩, _⟩ := C.out; have zw := hbw.size; have zF := hbF.size))
    have lvx := lvF
    clear lvF
    obtain ⟨v2, hv⟩ : ∃ v, v = vX.alloc (.cells #[.slice (some ⟨gT, 0, none⟩) T0.length T0.length, .slice (some ⟨gO, 0, none⟩) O0.length O0.length, .slice (some ⟨gP, 0, none⟩) P0.length P0.length] 31) := ⟨_, rfl⟩
    rw [← hv]
    have hbA : Below vX.heap.size vX v2 := by rw [hv]; exact new_below _ _
    have cA0 : v2.cell? ⟨vX.heap.size, 0, none⟩ = some (.slice (some ⟨gT, 0, none⟩) T0.length T0.length) := by rw [hv]; go_simp
    have cA1 : v2.cell? ⟨vX.heap.size, 1, none⟩ = some (.slice (some ⟨gO, 0, none⟩) O0.length O0.length) := by rw [hv]; go_simp
    have cA2 : v2.cell? ⟨vX.heap.size, 2, none⟩ = some (.slice (some ⟨gP, 0, none⟩) P0.length P0.length) := by rw [hv]; go_simp
    have zA : vX.heap.size < v2.heap.size := by rw [hv]; simp
    clear hv
    obtain ⟨bx, hbx⟩ : ∃ b, b = vX.heap.size := ⟨_, rfl⟩
    rw [← hbx] at cA0 cA1 cA2 ⊢
    have ybx : bx < v2.heap.size := by omega
    have lbx : vX.heap.size ≤ bx ∧ bx ≤ vX.heap.size := by omega
    clear hbx
    have hbw := below_step hbw hbA
    have C : Hid (Cells v2 [(w.heap.size, 0, .slice aT0 T0.length cT0), (w.heap.size, 1, .slice aO0 O0.length cO0), (w.heap.size, 2, .slice aP0 P0.length cP0), (bx, 0, .slice (some ⟨gT, 0, none⟩) T0.length T0.length), (bx, 1, .slice (some ⟨gO, 0, none⟩) O0.length O0.length), (bx, 2, .slice (some ⟨gP, 0, none⟩) P0.length P0.length)]) := by
      obtain ⟨c0, c1, c2, _⟩ := C.out.next hbA
      exact ⟨c0, c1, c2, ⟨ybx, cA0⟩, ⟨ybx, cA1⟩, ⟨ybx, cA2⟩, trivial⟩
    have ⟨⟨kz0, k0⟩, ⟨kz1, k1⟩, ⟨kz2, k2⟩, ⟨kz3, k3⟩, ⟨kz4, k4⟩, ⟨kz5, k5⟩, _⟩ := C.out
    have lvx := lvx.next hbA
    have zw := hbw.size
    go_upto_region 10 with (first
      | (go_at_call 25; refine (iBound_any T0.length O0.length P0.length a1 a2 (lvx.t.quad.2.here (by go_grown)) (lvx.o.quad.2.here (by go_grown)) (lvx.p.quad.2.here (by go_grown))).mono ?_; rintro e v4 ⟨rfl, hbP⟩; rw [HX.out]; have hbw := below_step (w := w) (by go_grown) hbP; have C : Hid (Cells v4 [(w.heap.size, 0, .slice aT0 T0.length cT0), (w.heap.size, 1, .slice aO0 O0.length cO0), (w.heap.size, 2, .slice aP0 P0.length cP0), (bx, 0, .slice (some ⟨gT, 0, none⟩) T0.length T0.length), (bx, 1, .slice (some ⟨gO, 0, none⟩) O0.length O0.length), (bx, 2, .slice (some ⟨gP, 0, none⟩) P0.length P0.length)]) := C.out.next (below_step (by go_grown) hbP); have ⟨⟨kz0, k0⟩, ⟨kz1, k1⟩, ⟨kz2, k2⟩, ⟨kz3, k3⟩, ⟨kz4, k4⟩, ⟨kz5, k5⟩, _⟩ := C.out; have lvx := lvx.next (below_step (by go_grown) hbP); have zw := hbw.size))
    have lvx4 := lvx
    clear C
    go_region_held3 (fun w' => w'.cell? ⟨w.heap.size, 0, none⟩ = some (.slice aT0 T0.length cT0) ∧ w'.cell? ⟨w.heap.size, 1, none⟩ = some (.slice aO0 O0.length cO0) ∧ w'.cell? ⟨w.heap.size, 2, none⟩ = some (.slice aP0 P0.length cP0) ∧ w'.cell? ⟨bx, 0, none⟩ = some (.slice (some ⟨gT, 0, none⟩) T0.length T0.length) ∧ w'.cell? ⟨bx, 1, none⟩ = some (.slice (some ⟨gO, 0, none⟩) O0.length O0.length) ∧ w'.cell? ⟨bx, 2, none⟩ = some (.slice (some ⟨gP, 0, none⟩) P0.length P0.length)) (first | (refine ⟨?_, ?_, ?_, ?_, ?_, ?_⟩ <;> first | assumption | (simp only [World.cell?_drew]; assumption)) | go_keep)
      (first
        | (go_at_call 11; refine (toLend_any cT0 cO0 cP0 (qT0.here (by go_grown)) (qO0.here (by go_grown)) (qP0.here (by go_grown)) hsT hsO hsP).mono ?_; rintro e vF ⟨hT, hO, hP, rfl, lvF, hbF⟩; have kc := below_cells hbF; have kf := below_frozens hbF; have hr := below_step (w := v4) (by go_grown) hbF; have hbw := below_step (w := w) (by go_grown) hbF; have zr := hr.size; have zw := hbw.size; have j0 := (below_cells hr _ _ kz0).trans k0; have j1 := (below_cells hr _ _ kz1).trans k1; have j2 := (below_cells hr _ _ kz2).trans k2; have j3 := (below_cells hr _ _ kz3).trans k3; have j4 := (below_cells hr _ _ kz4).trans k4; have j5 := (below_cells hr _ _ kz5).trans k5)
        | (go_at_call 13; refine (eqLV (lvx4.next hr) lvF hsT hsO hsP).mono ?_; rintro e vE ⟨rfl, hbE⟩; have kc := below_cells hbE; have kf := below_frozens hbE; have hr := below_step (w := v4) (by go_grown) hbE; have hbw := below_step (w := w) (by go_grown) hbE; have zr := hr.size; have zw := hbw.size; have j0 := (below_cells hr _ _ kz0).trans k0; have j1 := (below_cells hr _ _ kz1).trans k1; have j2 := (below_cells hr _ _ kz2).trans k2; have j3 := (below_cells hr _ _ kz3).trans k3; have j4 := (below_cells hr _ _ kz4).trans k4; have j5 := (below_cells hr _ _ kz5).trans k5))
    all_goals go_wp2
    all_goals go_ret
    all_goals exact ⟨rfl, hbw⟩
  · have hz : (if T0.length + O0.length + P0.length ≤ 1048576 then 1048576 - (T0.length : Int) - (O0.length : Int) - (P0.length : Int) else -1) = -1 := if_neg hs
    go_enter Try.func6, Try.ntmps6
    go_wp2_with (first
      | (go_at_call 9; refine (szLend_any _ _ _ _ _ _ _ _ _ _ hlT hlO hlP).mono ?_; rintro e v1 ⟨rfl, hb1⟩; rw [hz]; have hbw := below_step (w := w) (by go_grown) hb1)
      | go_in)
    go_ret
    exact ⟨rfl, hbw⟩

/-! ### THE ROW's STEP -/
set_option maxRecDepth 100000 in
theorem lifted (os : Os) (started : os.Started) (H : Type) (enc : TypeId × Value → H) :
    ReturnsInHanded {} Try.checked os 6 .any (Rows.fnExactBoundSpec.pre6 enc Try.prog Try.f6 Rows.fnExactBoundRow.domain false) (Rows.fnExactBoundSpec.post enc Try.prog Try.f6 false true false false) := by
  refine returnsInHanded_of_change (C := Try.checked) own started (by kernel_rfl) Try.func6
    (ChangeSpec.witness6 (enc := enc) (C := Try.checked) false ⟨#[], #[.agg #[.slice none 0 0, .slice none 0 0, .slice none 0 0], .int .i64 0, .int .i64 0], []⟩ 8 (by kernel_rfl) (by kernel_rfl) (by kernel_rfl) (by kernel_rfl)) ?_
  intro W base args ds gs before hval0 hW hcnd _
  have hval : ∀ (j : Nat) t v, Try.f6.params[j]? = some t → args[j]? = some v → Value.okWide Try.prog W .any base t v := hval0
  have hW' := hW
  have hlt := hW'.lt
  obtain ⟨p, q, hA0, hV, rfl, hfz, hnd⟩ := hW
  have hA : DataW.TrodAll enc Try.prog W 0 (fun _ => true) true Try.f6.params.toList args.toList ds p := hA0
  rw [Try.params6] at hA hval
  have hR := hA
  obtain ⟨v0, vs0, d0, ds0, p0, q0, hargs, rfl, rfl, h0, r0⟩ := trodAll_cons hA
  obtain ⟨v1, vs1, d1, ds1, p1, q1, rfl, rfl, rfl, h1, r1⟩ := trodAll_cons r0
  obtain ⟨v2, vs2, d2, ds2, p2, q2, rfl, rfl, rfl, h2, r2⟩ := trodAll_cons r1
  obtain ⟨rfl, rfl, rfl⟩ := trodAll_nil r2
  obtain rfl : args = #[v0, v1, v2] := by cases args; simp_all
  obtain ⟨rfl, rfl⟩ := trodVars_none hV
  obtain ⟨aT0, cT0, T0, aO0, cO0, O0, aP0, cP0, P0, rfl, qT0, qO0, qP0, mT0, mO0, mP0⟩ := open_lend (hval 0 25 v0 rfl rfl) h0
  obtain ⟨a1, rfl, rfl, rfl, w1⟩ := open_int Try.underlying2 (hval 1 2 v1 rfl rfl) h1
  obtain ⟨a2, rfl, rfl, rfl, w2⟩ := open_int Try.underlying2 (hval 2 2 v2 rfl rfl) h2
  clear hA0 hval0
  refine (walk W aT0 cT0 T0 aO0 cO0 O0 aP0 cP0 P0 qT0 qO0 qP0 mT0 mO0 mP0 a1 w1 a2 w2).mono fun e W' ⟨he, hg⟩ => ?_
  subst he
  exact ⟨_, rfl, _, _, _, [], _, [], hW', (trodAll_cons_mk (shut_bool Try.underlying4 _) trodAll_mk0), trodAll_after table_ok hg (by decide) hR (fun x hx => hlt x (List.mem_append.2 (.inl hx))), rfl, hg.frame _, fun h => by cases h⟩

theorem over : Rows.fnExactBoundRow.holds Try.pinned (OpenSpec.ofChange Rows.fnExactBoundSpec) :=
  OpenClaim.holds_of_wide 6 Try.f6 rfl rfl rfl rfl rfl rfl rfl ⟨rfl, rfl, rfl, rfl, rfl⟩ rfl rfl rfl rfl rfl (by kernel_rfl) Try.func6 (by kernel_rfl)
    (of_decide_eq_true (by kernel_rfl)) (by unfold Func.isWrapper; first | (rw [if_pos (by decide +kernel)]; kernel_rfl) | (rw [if_neg (by decide +kernel)]; exact ⟨rfl, rfl⟩))
    (fun os started H enc _ => lifted os started H enc)

theorem proved : Rows.FnExactBoundSaid := over
#print axioms proved
end Go.Proofs.Ytcepopboldnicam.fnExactBound
namespace Go.Proofs.Ytcepopboldnicam
theorem fnExactBound_holds : Rows.FnExactBoundSaid := fnExactBound.proved
#print axioms fnExactBound_holds
end Go.Proofs.Ytcepopboldnicam
