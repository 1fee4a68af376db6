/- Proved: at every filter, sample, window and side impl.Push answers as spec.Push does, writes nothing into its arguments, and its answer owns its memory (the law FnExactPush returns true and its arguments read as before); no condition. -/
import Derived.Test.YtgekjkdhhbbbkaiRows
import Derived.WalkKit
import Derived.ProofKit
import Derived.OpenShut
import Derived.ShutString
import Derived.Below
import Derived.Laws.Cover2
import Derived.Test.YtgekjkdhhbbbkaiFiltV
import Derived.Deep.RegionHeld3
import Derived.Deep.DeepCutAuto
namespace Go.Proofs.Ytgekjkdhhbbbkai.fnExactPush
open Go.ChangeShapes Go.WideShapes Go.ChangeAt Go.RowKit
set_option linter.unusedVariables false

theorem own : ownKnob Try.prog.godebug = none := by kernel_rfl


/-! ### STEP 1: the walk -/
set_option maxHeartbeats 16000000 in
theorem walk (w : World) (a0 : Option Addr) (cap0 : Nat) (xs0 : List (Int × Int)) (hs0 : Smp w.heap.size w a0 xs0) (hi0 : ∀ x ∈ xs0, I64 x.1 ∧ I64 x.2) (hn0 : a0 = none → xs0 = [] ∧ cap0 = 0) (hc0 : xs0.length ≤ cap0) (hm0 : cap0 ≤ maxLen) (p1 q1 : Int) (ip1 : I64 p1) (iq1 : I64 q1) (a2 : Int) (w2 : (Lit.int .i64 a2).wf = true) (a3 : Bool) :
    Calls Try.prog 6 #[.agg #[.slice a0 xs0.length cap0], .agg #[.int .i64 p1, .int .i64 q1], .int .i64 a2, .bool a3] w fun e w' => e = .returned (.bool true) ∧ Below w.heap.size w w' := by
  have hl : (xs0.length : Int) ≤ 9223372036854775807 := by unfold maxLen at hm0; omega
  by_cases hs : xs0.length ≤ 1048576
  · have hz : (if xs0.length ≤ 1048576 then 1048576 - (xs0.length : Int) else -1) = 1048576 - (xs0.length : Int) := if_pos hs
    have hz' : (0 : Int) ≤ 1048576 - (xs0.length : Int) := by omega
    have C0 : Hid (Cells ((w.alloc (.cells #[.slice a0 xs0.length cap0] 27)).alloc (.cells #[.int .i64 p1, .int .i64 q1] 37)) [(w.heap.size, 0, .slice a0 xs0.length cap0), (w.heap.size + 1, 0, .int .i64 p1), (w.heap.size + 1, 1, .int .i64 q1)]) := ⟨⟨by simp; omega, by go_simp⟩, ⟨by simp, by go_simp⟩, ⟨by simp, by go_simp⟩, trivial⟩
    obtain ⟨ys, f, hys, hsp, him⟩ := pushes a3 xs0 p1 q1 a2
    have HSP : Hid _ := hsp
    have HIM : Hid _ := him
    clear hsp him
    go_enter Try.func6, Try.ntmps6
    go_upto_region 5 with (first
      | (go_at_call 14; refine (szFilter_any _ _ _ _ hl).mono ?_; rintro e v1 ⟨rfl, hb1⟩; rw [hz]; have C : Hid (Cells v1 [(w.heap.size, 0, .slice a0 xs0.length cap0), (w.heap.size + 1, 0, .int .i64 p1), (w.heap.size + 1, 1, .int .i64 q1)]) := C0.out.next hb1; have hbw := below_step (w := w) (by go_grown) hb1; have ⟨⟨kz0, k0⟩, ⟨kz1, k1⟩, ⟨kz2, k2⟩, _⟩ := C.out; have zw := hbw.size))
    clear C0
    have yA : w.heap.size + 1 < v1.heap.size := kz1
    go_cut [10, 11] from 25 (fun s t wd => Res v1 ys f s t wd)
    case first =>
        clear C
        have n0 : v1.heap.size ≠ w.heap.size := by omega
        have n1 : v1.heap.size ≠ w.heap.size + 1 := by omega
        set_option maxRecDepth 100000 in
        go_region_held3 (fun w' => w'.cell? ⟨w.heap.size, 0, none⟩ = some (.slice a0 xs0.length cap0) ∧ w'.cell? ⟨w.heap.size + 1, 0, none⟩ = some (.int .i64 p1) ∧ w'.cell? ⟨w.heap.size + 1, 1, none⟩ = some (.int .i64 q1)) (first | (refine ⟨?_, ?_, ?_⟩ <;> first | assumption | (simp only [World.cell?_drew]; assumption)) | go_keep)
          (first
            | (go_at_call 16; refine (toFilter_any cap0 (hs0.here (by go_grown)) hs).mono ?_; rintro e vF ⟨gF, rfl, hgF0, hgF1, fF, hbF⟩; have zF := hbF.size; (try simp at zF hgF0); have y1 : v1.heap.size < vF.heap.size := (by omega); have kc := below_cells hbF; have kf := below_frozens hbF; have hr := below_step (w := v1) (by go_grown) hbF; have hbw := below_step (w := w) (by go_grown) hbF; have zr := hr.size; have zw := hbw.size; have j0 := (below_cells hr _ _ kz0).trans k0; have j1 := (below_cells hr _ _ kz1).trans k1; have j2 := (below_cells hr _ _ kz2).trans k2; have n0 : vF.heap.size ≠ w.heap.size := (by omega); have n1 : vF.heap.size ≠ w.heap.size + 1 := (by omega); have sF := fF.smp hgF1)
            | (go_at_call 20; refine (toSample_any p1 q1 _).mono ?_; rintro e vS ⟨rfl, hbS⟩; have zS := hbS.size; (try simp at zS); have y2 : v1.heap.size < vS.heap.size := (by omega); (try (have y3 : vF.heap.size < vS.heap.size := (by omega))); have sF := sF.here (below_step (w := vF) (by go_grown) hbS); have kc := below_cells hbS; have kf := below_frozens hbS; have hr := below_step (w := v1) (by go_grown) hbS; have hbw := below_step (w := w) (by go_grown) hbS; have zr := hr.size; have zw := hbw.size; have j0 := (below_cells hr _ _ kz0).trans k0; have j1 := (below_cells hr _ _ kz1).trans k1; have j2 := (below_cells hr _ _ kz2).trans k2; have n0 : vS.heap.size ≠ w.heap.size := (by omega); have n1 : vS.heap.size ≠ w.heap.size + 1 := (by omega))
            | (go_at_call 19; refine (HSP.out _ _ _ (sF.here (by go_grown))).mono ?_; rintro e vP ⟨aP, nP, cP, rfl, hfv, hbP⟩; have zP := hbP.size; (try simp at zP); (try simp only [World.size_alloc] at hfv); have kc := below_cells hbP; have kf := below_frozens hbP; have hr := below_step (w := v1) (by go_grown) hbP; have hbw := below_step (w := w) (by go_grown) hbP; have zr := hr.size; have zw := hbw.size; have j0 := (below_cells hr _ _ kz0).trans k0; have j1 := (below_cells hr _ _ kz1).trans k1; have j2 := (below_cells hr _ _ kz2).trans k2; have n0 : vP.heap.size ≠ w.heap.size := (by omega); have n1 : vP.heap.size ≠ w.heap.size + 1 := (by omega))
          )
        all_goals (repeat go_step)
        all_goals go_meet
        all_goals first | exact res_alloc hfv (by omega) hr | exact res_set (u := .slice none 0 0) hfv (by omega) hr (by omega) (by omega) (by go_simp)
    case rest =>
    obtain ⟨va, hva⟩ : ∃ va, va = wc := ⟨_, rfl⟩
    subst hva
    obtain ⟨b10, a10, n10, c10, rfl, rfl, hb10, hl10, q10, fv10, ap10, hba⟩ := hcut
    have hbw := below_step hbw hba
    have C : Hid (Cells va [(w.heap.size, 0, .slice a0 xs0.length cap0), (w.heap.size + 1, 0, .int .i64 p1), (w.heap.size + 1, 1, .int .i64 q1), (b10, 0, .slice a10 n10 c10)]) := by
      obtain ⟨⟨z0, c0⟩, ⟨z1, c1⟩, c2, _⟩ := C.out.next hba
      exact ⟨⟨z0, c0⟩, ⟨z1, c1⟩, c2, ⟨hl10, q10⟩, trivial⟩
    have ⟨⟨kz0, k0⟩, ⟨kz1, k1⟩, ⟨kz2, k2⟩, ⟨kz3, k3⟩, _⟩ := C.out
    have zw := hbw.size
    have za := hba.size
    have u10 : ∀ g, (Value.slice a10 n10 c10).ownBlock = some g → v1.heap.size ≤ g ∧ g < va.heap.size := fun g hg => fv10.own hg
    go_upto_region 7 with (first
      | (go_at_call 16; refine (toFilter_any cap0 (hs0.here (by go_grown)) hs).mono ?_; rintro e vX ⟨gx, rfl, hgx0, hgx1, fx, hbX⟩; have hbw := below_step (w := w) (by go_grown) hbX; have C : Hid (Cells vX [(w.heap.size, 0, .slice a0 xs0.length cap0), (w.heap.size + 1, 0, .int .i64 p1), (w.heap.size + 1, 1, .int .i64 q1), (b10, 0, .slice a10 n10 c10)]) := C.out.next (below_step (by go_grown) hbX); have ⟨⟨kz0, k0⟩, ⟨kz1, k1⟩, ⟨kz2, k2⟩, ⟨kz3, k3⟩, _⟩ := C.out; have fv10 := fv10.next (below_step (by go_grown) hbX); have zw := hbw.size; have zX := hbX.size))
    obtain ⟨v2, hv2⟩ : ∃ v2, v2 = vX.alloc (.cells #[.slice (some ⟨gx, 0, none⟩) xs0.length xs0.length] 32) := ⟨_, rfl⟩
    rw [← hv2]
    have hX2 : Below vX.heap.size vX v2 := by rw [hv2]; exact new_below _ _
    have zX2 : vX.heap.size < v2.heap.size := by rw [hv2]; simp
    have hcx : v2.cell? ⟨vX.heap.size, 0, none⟩ = some (.slice (some ⟨gx, 0, none⟩) xs0.length xs0.length) := by rw [hv2]; go_simp
    clear hv2
    have hbw := below_step hbw hX2
    have C : Hid (Cells v2 [(w.heap.size, 0, .slice a0 xs0.length cap0), (w.heap.size + 1, 0, .int .i64 p1), (w.heap.size + 1, 1, .int .i64 q1), (b10, 0, .slice a10 n10 c10), (vX.heap.size, 0, .slice (some ⟨gx, 0, none⟩) xs0.length xs0.length)]) := by
      obtain ⟨⟨z0, c0⟩, ⟨z1, c1⟩, c2, c3, _⟩ := C.out.next hX2
      exact ⟨⟨z0, c0⟩, ⟨z1, c1⟩, c2, c3, ⟨by omega, hcx⟩, trivial⟩
    have ⟨⟨kz0, k0⟩, ⟨kz1, k1⟩, ⟨kz2, k2⟩, ⟨kz3, k3⟩, ⟨kz4, k4⟩, _⟩ := C.out
    have fv10 := fv10.next hX2
    have fvx : FV v2 va.heap.size (.slice (some ⟨gx, 0, none⟩) xs0.length xs0.length) xs0 := (show FV vX va.heap.size _ xs0 from .inl ⟨gx, _, rfl, hgx0, hgx1, fx, Nat.le_refl _⟩).next hX2
    have sx := (fx.smp hgx1).here hX2
    have zw := hbw.size
    go_cut [13, 14] from 37 (fun s t wd => Res v2 ys f s t wd)
    case first =>
        clear C
        have n0 : v2.heap.size ≠ w.heap.size := by omega
        have n1 : v2.heap.size ≠ w.heap.size + 1 := by omega
        have n2 : v2.heap.size ≠ b10 := by omega
        have n3 : v2.heap.size ≠ vX.heap.size := by omega
        set_option maxRecDepth 100000 in
        go_region_held3 (fun w' => w'.cell? ⟨w.heap.size, 0, none⟩ = some (.slice a0 xs0.length cap0) ∧ w'.cell? ⟨w.heap.size + 1, 0, none⟩ = some (.int .i64 p1) ∧ w'.cell? ⟨w.heap.size + 1, 1, none⟩ = some (.int .i64 q1) ∧ w'.cell? ⟨b10, 0, none⟩ = some (.slice a10 n10 c10) ∧ w'.cell? ⟨vX.heap.size, 0, none⟩ = some (.slice (some ⟨gx, 0, none⟩) xs0.length xs0.length)) (first | (refine ⟨?_, ?_, ?_, ?_, ?_⟩ <;> first | assumption | (simp only [World.cell?_drew]; assumption)) | go_keep)
          (first
            | (go_at_call 20; refine (toSample_any p1 q1 _).mono ?_; rintro e vS ⟨rfl, hbS⟩; have zS := hbS.size; (try simp at zS); (try (have y2 : v2.heap.size < vS.heap.size := (by omega))); have kc := below_cells hbS; have kf := below_frozens hbS; have hr := below_step (w := v2) (by go_grown) hbS; have hbw := below_step (w := w) (by go_grown) hbS; have zr := hr.size; have zw := hbw.size; have j0 := (below_cells hr _ _ kz0).trans k0; have j1 := (below_cells hr _ _ kz1).trans k1; have j2 := (below_cells hr _ _ kz2).trans k2; have j3 := (below_cells hr _ _ kz3).trans k3; have j4 := (below_cells hr _ _ kz4).trans k4; have n0 : vS.heap.size ≠ w.heap.size := (by omega); have n1 : vS.heap.size ≠ w.heap.size + 1 := (by omega); have n2 : vS.heap.size ≠ b10 := (by omega); have n3 : vS.heap.size ≠ vX.heap.size := (by omega))
            | (go_at_call 21; refine (HIM.out _ _ _ (sx.here (by go_grown)) (Nat.le_refl _) (by intro e; cases e)).mono ?_; rintro e vP ⟨aP, nP, cP, rfl, hfv, hbP⟩; have zP := hbP.size; (try simp at zP); (try simp only [World.size_alloc] at hfv); have kc := below_cells hbP; have kf := below_frozens hbP; have hr := below_step (w := v2) (by go_grown) hbP; have hbw := below_step (w := w) (by go_grown) hbP; have zr := hr.size; have zw := hbw.size; have j0 := (below_cells hr _ _ kz0).trans k0; have j1 := (below_cells hr _ _ kz1).trans k1; have j2 := (below_cells hr _ _ kz2).trans k2; have j3 := (below_cells hr _ _ kz3).trans k3; have j4 := (below_cells hr _ _ kz4).trans k4; have n0 : vP.heap.size ≠ w.heap.size := (by omega); have n1 : vP.heap.size ≠ w.heap.size + 1 := (by omega); have n2 : vP.heap.size ≠ b10 := (by omega); have n3 : vP.heap.size ≠ vX.heap.size := (by omega))
          )
        all_goals (repeat go_step)
        all_goals go_meet
        all_goals first | exact res_alloc hfv (by omega) hr | exact res_set (u := .slice none 0 0) hfv (by omega) hr (by omega) (by omega) (by go_simp)
    case rest =>
    obtain ⟨v3, hv3⟩ : ∃ v3, v3 = wc := ⟨_, rfl⟩
    subst hv3
    obtain ⟨b13, a13, n13, c13, rfl, rfl, hb13, hl13, q13, fv13, ap13, hb3⟩ := hcut
    have hbw := below_step hbw hb3
    have C : Hid (Cells v3 [(w.heap.size, 0, .slice a0 xs0.length cap0), (w.heap.size + 1, 0, .int .i64 p1), (w.heap.size + 1, 1, .int .i64 q1), (b10, 0, .slice a10 n10 c10), (vX.heap.size, 0, .slice (some ⟨gx, 0, none⟩) xs0.length xs0.length), (b13, 0, .slice a13 n13 c13)]) := by
      obtain ⟨⟨z0, c0⟩, ⟨z1, c1⟩, c2, c3, c4, _⟩ := C.out.next hb3
      exact ⟨⟨z0, c0⟩, ⟨z1, c1⟩, c2, c3, c4, ⟨hl13, q13⟩, trivial⟩
    have ⟨⟨kz0, k0⟩, ⟨kz1, k1⟩, ⟨kz2, k2⟩, ⟨kz3, k3⟩, ⟨kz4, k4⟩, ⟨kz5, k5⟩, _⟩ := C.out
    have fv10 := fv10.next hb3
    have fvx := fvx.next hb3
    have zw := hbw.size
    have z3 := hb3.size
    have u13 : ∀ g, (Value.slice a13 n13 c13).ownBlock = some g → v2.heap.size ≤ g ∧ g < v3.heap.size := fun g hg => fv13.own hg
    go_upto_region 10 with (first
      | (go_at_call 18; refine (eqF_any fv13 fv10 (by omega)).mono ?_; rintro e v4 ⟨rfl, hb4⟩; rw [show decide (ys = ys) = true from decide_eq_true rfl]; have hbw := below_step (w := w) (by go_grown) hb4; have C : Hid (Cells v4 [(w.heap.size, 0, .slice a0 xs0.length cap0), (w.heap.size + 1, 0, .int .i64 p1), (w.heap.size + 1, 1, .int .i64 q1), (b10, 0, .slice a10 n10 c10), (vX.heap.size, 0, .slice (some ⟨gx, 0, none⟩) xs0.length xs0.length), (b13, 0, .slice a13 n13 c13)]) := C.out.next (below_step (by go_grown) hb4); have ⟨⟨kz0, k0⟩, ⟨kz1, k1⟩, ⟨kz2, k2⟩, ⟨kz3, k3⟩, ⟨kz4, k4⟩, ⟨kz5, k5⟩, _⟩ := C.out; have fv10 := fv10.next (below_step (by go_grown) hb4); have fvx := fvx.next (below_step (by go_grown) hb4); have fv13 := fv13.next (below_step (by go_grown) hb4); have zw := hbw.size; have z4 := hb4.size))
    go_cut [59] from 55 (fun s wd => s = .bool false ∧ Below v4.heap.size v4 wd)
    case first =>
        have fvx4 := fvx
        clear C
        have n0 : v4.heap.size ≠ w.heap.size := by omega
        have n1 : v4.heap.size ≠ w.heap.size + 1 := by omega
        have n2 : v4.heap.size ≠ b10 := by omega
        have n3 : v4.heap.size ≠ vX.heap.size := by omega
        set_option maxRecDepth 100000 in
        go_region_held3 (fun w' => w'.cell? ⟨w.heap.size, 0, none⟩ = some (.slice a0 xs0.length cap0) ∧ w'.cell? ⟨w.heap.size + 1, 0, none⟩ = some (.int .i64 p1) ∧ w'.cell? ⟨w.heap.size + 1, 1, none⟩ = some (.int .i64 q1) ∧ w'.cell? ⟨b10, 0, none⟩ = some (.slice a10 n10 c10) ∧ w'.cell? ⟨vX.heap.size, 0, none⟩ = some (.slice (some ⟨gx, 0, none⟩) xs0.length xs0.length) ∧ w'.cell? ⟨b13, 0, none⟩ = some (.slice a13 n13 c13)) (first | (refine ⟨?_, ?_, ?_, ?_, ?_, ?_⟩ <;> first | assumption | (simp only [World.cell?_drew]; assumption)) | go_keep)
          (first
            | (go_at_call 16; refine (toFilter_any cap0 (hs0.here (by go_grown)) hs).mono ?_; rintro e vF ⟨gF, rfl, hgF0, hgF1, fF, hbF⟩; have zF := hbF.size; (try simp at zF hgF0); have y1 : v4.heap.size < vF.heap.size := (by omega); have kc := below_cells hbF; have kf := below_frozens hbF; have hr := below_step (w := v4) (by go_grown) hbF; have hbw := below_step (w := w) (by go_grown) hbF; have zr := hr.size; have zw := hbw.size; have j0 := (below_cells hr _ _ kz0).trans k0; have j1 := (below_cells hr _ _ kz1).trans k1; have j2 := (below_cells hr _ _ kz2).trans k2; have j3 := (below_cells hr _ _ kz3).trans k3; have j4 := (below_cells hr _ _ kz4).trans k4; have j5 := (below_cells hr _ _ kz5).trans k5; have n0 : vF.heap.size ≠ w.heap.size := (by omega); have n1 : vF.heap.size ≠ w.heap.size + 1 := (by omega); have n2 : vF.heap.size ≠ b10 := (by omega); have n3 : vF.heap.size ≠ vX.heap.size := (by omega); have sF := fF.smp hgF1)
            | (go_at_call 18; refine (eqF_any (fvx4.next hr) (show FV vF _ _ xs0 from .inl ⟨gF, _, rfl, hgF0, hgF1, fF, Nat.le_refl _⟩) (by omega)).mono ?_; rintro e vE ⟨rfl, hbE⟩; rw [show decide (xs0 = xs0) = true from decide_eq_true rfl]; have kc := below_cells hbE; have kf := below_frozens hbE; have hr := below_step (w := v4) (by go_grown) hbE; have hbw := below_step (w := w) (by go_grown) hbE; have zr := hr.size; have zw := hbw.size; have j0 := (below_cells hr _ _ kz0).trans k0; have j1 := (below_cells hr _ _ kz1).trans k1; have j2 := (below_cells hr _ _ kz2).trans k2; have j3 := (below_cells hr _ _ kz3).trans k3; have j4 := (below_cells hr _ _ kz4).trans k4; have j5 := (below_cells hr _ _ kz5).trans k5; have n0 : vE.heap.size ≠ w.heap.size := (by omega); have n1 : vE.heap.size ≠ w.heap.size + 1 := (by omega); have n2 : vE.heap.size ≠ b10 := (by omega); have n3 : vE.heap.size ≠ vX.heap.size := (by omega))
          )
        all_goals (repeat go_step)
        all_goals go_meet
        all_goals exact ⟨rfl, hr⟩
    case rest =>
    obtain ⟨v5, hv5⟩ : ∃ v5, v5 = wc := ⟨_, rfl⟩
    subst hv5
    obtain ⟨rfl, hb5⟩ := hcut
    have hbw := below_step (w := w) (by go_grown) hb5; have C : Hid (Cells v5 [(w.heap.size, 0, .slice a0 xs0.length cap0), (w.heap.size + 1, 0, .int .i64 p1), (w.heap.size + 1, 1, .int .i64 q1), (b10, 0, .slice a10 n10 c10), (vX.heap.size, 0, .slice (some ⟨gx, 0, none⟩) xs0.length xs0.length), (b13, 0, .slice a13 n13 c13)]) := C.out.next (below_step (by go_grown) hb5); have ⟨⟨kz0, k0⟩, ⟨kz1, k1⟩, ⟨kz2, k2⟩, ⟨kz3, k3⟩, ⟨kz4, k4⟩, ⟨kz5, k5⟩, _⟩ := C.out; have fv10 := fv10.next (below_step (by go_grown) hb5); have fvx := fvx.next (below_step (by go_grown) hb5); have fv13 := fv13.next (below_step (by go_grown) hb5); have zw := hbw.size
    have z5 := hb5.size
    have C : Hid (Cells v5 [(w.heap.size, 0, .slice a0 xs0.length cap0), (w.heap.size + 1, 0, .int .i64 p1), (w.heap.size + 1, 1, .int .i64 q1), (b10, 0, .slice a10 n10 c10), (b13, 0, .slice a13 n13 c13)]) := by
      obtain ⟨c0, c1, c2, c3, _, c5, _⟩ := C.out
      exact ⟨c0, c1, c2, c3, c5, trivial⟩
    have hkb : decide (1 + 2 * (xs0.length : Int) < 0) = false := decide_eq_false (by omega)
    have hkc : decide (1 + 2 * (ys.length : Int) < 0) = false := decide_eq_false (by omega)
    go_upto_region 24 with (first
      | (go_at_call 22; have g1 := mk1; refine (markF_any 1 fv13 (by omega) (by omega) (by omega)).mono ?_; rintro e v7 ⟨rfl, fm13, ho7⟩; have hbw := hbw.trans (ho7.below (fun g hg => (by have := u13 g hg; omega)) (by omega)); have C : Hid (Cells v7 [(w.heap.size, 0, .slice a0 xs0.length cap0), (w.heap.size + 1, 0, .int .i64 p1), (w.heap.size + 1, 1, .int .i64 q1), (b10, 0, .slice a10 n10 c10), (b13, 0, .slice a13 n13 c13)]) := Cells.onlyO ho7 (by intro c hc e; simp only [List.mem_cons, List.not_mem_nil, or_false] at hc; have u := u13 _ e; rcases hc with rfl | rfl | rfl | rfl | rfl <;> first | (simp only at u; omega) | exact ap13 e) C.out; have ⟨⟨kz0, k0⟩, ⟨kz1, k1⟩, ⟨kz2, k2⟩, ⟨kz3, k3⟩, ⟨kz4, k4⟩, _⟩ := C.out; have fv10 := fv10.onlyO ho7 (fun g hg e => (by have := u10 g hg; have := u13 g e; omega)); have mk2 := ho7; have zw := hbw.size)
      | (go_at_call 22; refine (markF_any 1 fvx hs (by omega) (by omega)).mono ?_; rintro e v6 ⟨rfl, fmx, ho6⟩; have hbw := hbw.trans (ho6.below (fun g hg => (by have e' : gx = g := Option.some.inj hg; omega)) (by omega)); have C : Hid (Cells v6 [(w.heap.size, 0, .slice a0 xs0.length cap0), (w.heap.size + 1, 0, .int .i64 p1), (w.heap.size + 1, 1, .int .i64 q1), (b10, 0, .slice a10 n10 c10), (b13, 0, .slice a13 n13 c13)]) := Cells.onlyO ho6 (by intro c hc e; simp only [List.mem_cons, List.not_mem_nil, or_false] at hc; have u : gx = c.1 := Option.some.inj e; rcases hc with rfl | rfl | rfl | rfl | rfl <;> (simp only at u; omega)) C.out; have ⟨⟨kz0, k0⟩, ⟨kz1, k1⟩, ⟨kz2, k2⟩, ⟨kz3, k3⟩, ⟨kz4, k4⟩, _⟩ := C.out; have fv10 := fv10.onlyO ho6 (fun g hg e => (by have := u10 g hg; have e' : gx = g := Option.some.inj e; omega)); have fv13 := fv13.onlyO ho6 (fun g hg e => (by have := u13 g hg; have e' : gx = g := Option.some.inj e; omega)); have mk1 := ho6; have zw := hbw.size)
      | (go_at_call 23; have g1 := mk2; refine (heldF_any 1 fm13 (by omega) (by omega) (by omega)).mono ?_; rintro e v8 ⟨rfl, hb8⟩; have hbw := below_step (w := w) (by go_grown) hb8; have C : Hid (Cells v8 [(w.heap.size, 0, .slice a0 xs0.length cap0), (w.heap.size + 1, 0, .int .i64 p1), (w.heap.size + 1, 1, .int .i64 q1), (b10, 0, .slice a10 n10 c10), (b13, 0, .slice a13 n13 c13)]) := C.out.next (below_step (by go_grown) hb8); have ⟨⟨kz0, k0⟩, ⟨kz1, k1⟩, ⟨kz2, k2⟩, ⟨kz3, k3⟩, ⟨kz4, k4⟩, _⟩ := C.out; have fv10 := fv10.next (below_step (by go_grown) hb8); have fm13 := fm13.next (below_step (by go_grown) hb8); have zw := hbw.size)
      | (go_at_call 18; refine (eqF_any fv13 fv10 (by omega)).mono ?_; rintro e v6e ⟨rfl, hb6⟩; rw [show decide (ys = ys) = true from decide_eq_true rfl]; have hbw := below_step (w := w) (by go_grown) hb6; have C : Hid (Cells v6e [(w.heap.size, 0, .slice a0 xs0.length cap0), (w.heap.size + 1, 0, .int .i64 p1), (w.heap.size + 1, 1, .int .i64 q1), (b10, 0, .slice a10 n10 c10), (b13, 0, .slice a13 n13 c13)]) := C.out.next (below_step (by go_grown) hb6); have ⟨⟨kz0, k0⟩, ⟨kz1, k1⟩, ⟨kz2, k2⟩, ⟨kz3, k3⟩, ⟨kz4, k4⟩, _⟩ := C.out; have fv10 := fv10.next (below_step (by go_grown) hb6); have fv13 := fv13.next (below_step (by go_grown) hb6); have zw := hbw.size))
    go_cut [18, 19] from 87 (fun s t wd => Res v8 ys f s t wd)
    case first =>
        clear C
        have n0 : v8.heap.size ≠ w.heap.size := by omega
        have n1 : v8.heap.size ≠ w.heap.size + 1 := by omega
        have n2 : v8.heap.size ≠ b10 := by omega
        have n3 : v8.heap.size ≠ b13 := by omega
        set_option maxRecDepth 100000 in
        go_region_held3 (fun w' => w'.cell? ⟨w.heap.size, 0, none⟩ = some (.slice a0 xs0.length cap0) ∧ w'.cell? ⟨w.heap.size + 1, 0, none⟩ = some (.int .i64 p1) ∧ w'.cell? ⟨w.heap.size + 1, 1, none⟩ = some (.int .i64 q1) ∧ w'.cell? ⟨b10, 0, none⟩ = some (.slice a10 n10 c10) ∧ w'.cell? ⟨b13, 0, none⟩ = some (.slice a13 n13 c13)) (first | (refine ⟨?_, ?_, ?_, ?_, ?_⟩ <;> first | assumption | (simp only [World.cell?_drew]; assumption)) | go_keep)
          (first
            | (go_at_call 16; refine (toFilter_any cap0 (hs0.here (by go_grown)) hs).mono ?_; rintro e vF ⟨gF, rfl, hgF0, hgF1, fF, hbF⟩; have zF := hbF.size; (try simp at zF hgF0); have y1 : v8.heap.size < vF.heap.size := (by omega); have kc := below_cells hbF; have kf := below_frozens hbF; have hr := below_step (w := v8) (by go_grown) hbF; have hbw := below_step (w := w) (by go_grown) hbF; have zr := hr.size; have zw := hbw.size; have j0 := (below_cells hr _ _ kz0).trans k0; have j1 := (below_cells hr _ _ kz1).trans k1; have j2 := (below_cells hr _ _ kz2).trans k2; have j3 := (below_cells hr _ _ kz3).trans k3; have j4 := (below_cells hr _ _ kz4).trans k4; have n0 : vF.heap.size ≠ w.heap.size := (by omega); have n1 : vF.heap.size ≠ w.heap.size + 1 := (by omega); have n2 : vF.heap.size ≠ b10 := (by omega); have n3 : vF.heap.size ≠ b13 := (by omega); have sF := fF.smp hgF1)
            | (go_at_call 20; refine (toSample_any p1 q1 _).mono ?_; rintro e vS ⟨rfl, hbS⟩; have zS := hbS.size; (try simp at zS); have y2 : v8.heap.size < vS.heap.size := (by omega); (try (have y3 : vF.heap.size < vS.heap.size := (by omega))); have sF := sF.here (below_step (w := vF) (by go_grown) hbS); have kc := below_cells hbS; have kf := below_frozens hbS; have hr := below_step (w := v8) (by go_grown) hbS; have hbw := below_step (w := w) (by go_grown) hbS; have zr := hr.size; have zw := hbw.size; have j0 := (below_cells hr _ _ kz0).trans k0; have j1 := (below_cells hr _ _ kz1).trans k1; have j2 := (below_cells hr _ _ kz2).trans k2; have j3 := (below_cells hr _ _ kz3).trans k3; have j4 := (below_cells hr _ _ kz4).trans k4; have n0 : vS.heap.size ≠ w.heap.size := (by omega); have n1 : vS.heap.size ≠ w.heap.size + 1 := (by omega); have n2 : vS.heap.size ≠ b10 := (by omega); have n3 : vS.heap.size ≠ b13 := (by omega))
            | (go_at_call 21; refine (HIM.out _ _ _ (sF.here (by go_grown)) (Nat.le_refl _) (by intro e; cases e)).mono ?_; rintro e vP ⟨aP, nP, cP, rfl, hfv, hbP⟩; have zP := hbP.size; (try simp at zP); (try simp only [World.size_alloc] at hfv); have kc := below_cells hbP; have kf := below_frozens hbP; have hr := below_step (w := v8) (by go_grown) hbP; have hbw := below_step (w := w) (by go_grown) hbP; have zr := hr.size; have zw := hbw.size; have j0 := (below_cells hr _ _ kz0).trans k0; have j1 := (below_cells hr _ _ kz1).trans k1; have j2 := (below_cells hr _ _ kz2).trans k2; have j3 := (below_cells hr _ _ kz3).trans k3; have j4 := (below_cells hr _ _ kz4).trans k4; have n0 : vP.heap.size ≠ w.heap.size := (by omega); have n1 : vP.heap.size ≠ w.heap.size + 1 := (by omega); have n2 : vP.heap.size ≠ b10 := (by omega); have n3 : vP.heap.size ≠ b13 := (by omega))
          )
        all_goals (repeat go_step)
        all_goals go_meet
        all_goals first | exact res_alloc hfv (by omega) hr | exact res_set (u := .slice none 0 0) hfv (by omega) hr (by omega) (by omega) (by go_simp)
    case rest =>
    obtain ⟨v9, hv9⟩ : ∃ v9, v9 = wc := ⟨_, rfl⟩
    subst hv9
    obtain ⟨b18, a18, n18, c18, rfl, rfl, hb18, hl18, q18, fv18, ap18, hb9⟩ := hcut
    have hbw := below_step hbw hb9
    have C : Hid (Cells v9 [(w.heap.size, 0, .slice a0 xs0.length cap0), (w.heap.size + 1, 0, .int .i64 p1), (w.heap.size + 1, 1, .int .i64 q1), (b10, 0, .slice a10 n10 c10), (b13, 0, .slice a13 n13 c13), (b18, 0, .slice a18 n18 c18)]) := by
      obtain ⟨c0, c1, c2, c3, c4, _⟩ := C.out.next hb9
      exact ⟨c0, c1, c2, c3, c4, ⟨hl18, q18⟩, trivial⟩
    have ⟨⟨kz0, k0⟩, ⟨kz1, k1⟩, ⟨kz2, k2⟩, ⟨kz3, k3⟩, ⟨kz4, k4⟩, ⟨kz5, k5⟩, _⟩ := C.out
    have fv10 := fv10.next hb9
    have fm13 := fm13.next hb9
    have zw := hbw.size
    go_wp2_with (first
      | (go_at_call 23; refine (heldF_any 1 fm13 (by omega) (by omega) (by omega)).mono ?_; rintro e v11 ⟨rfl, hb11⟩; have hbw := below_step (w := w) (by go_grown) hb11; have C : Hid (Cells v11 [(w.heap.size, 0, .slice a0 xs0.length cap0), (w.heap.size + 1, 0, .int .i64 p1), (w.heap.size + 1, 1, .int .i64 q1), (b10, 0, .slice a10 n10 c10), (b13, 0, .slice a13 n13 c13), (b18, 0, .slice a18 n18 c18)]) := C.out.next (below_step (by go_grown) hb11); have ⟨⟨kz0, k0⟩, ⟨kz1, k1⟩, ⟨kz2, k2⟩, ⟨kz3, k3⟩, ⟨kz4, k4⟩, ⟨kz5, k5⟩, _⟩ := C.out; have fv10 := fv10.next (below_step (by go_grown) hb11); have fv18 := fv18.next (below_step (by go_grown) hb11); have zw := hbw.size)
      | (go_at_call 18; refine (eqF_any fv18 fv10 (by omega)).mono ?_; rintro e v10 ⟨rfl, hb10'⟩; rw [show decide (ys = ys) = true from decide_eq_true rfl]; have hbw := below_step (w := w) (by go_grown) hb10'; have C : Hid (Cells v10 [(w.heap.size, 0, .slice a0 xs0.length cap0), (w.heap.size + 1, 0, .int .i64 p1), (w.heap.size + 1, 1, .int .i64 q1), (b10, 0, .slice a10 n10 c10), (b13, 0, .slice a13 n13 c13), (b18, 0, .slice a18 n18 c18)]) := C.out.next (below_step (by go_grown) hb10'); have ⟨⟨kz0, k0⟩, ⟨kz1, k1⟩, ⟨kz2, k2⟩, ⟨kz3, k3⟩, ⟨kz4, k4⟩, ⟨kz5, k5⟩, _⟩ := C.out; have fv10 := fv10.next (below_step (by go_grown) hb10'); have fm13 := fm13.next (below_step (by go_grown) hb10'); have fv18 := fv18.next (below_step (by go_grown) hb10'); have zw := hbw.size))
    go_ret
    exact ⟨rfl, hbw⟩
  · have hz : (if xs0.length ≤ 1048576 then 1048576 - (xs0.length : Int) else -1) = -1 := if_neg hs
    go_enter Try.func6, Try.ntmps6
    go_wp2_with (first
      | (go_at_call 14; refine (szFilter_any _ _ _ _ hl).mono ?_; rintro e v1 ⟨rfl, hb1⟩; rw [hz]; have hbw := below_step (w := w) (by go_grown) hb1)
      | go_in)
    go_ret
    exact ⟨rfl, hbw⟩

/-! ### THE ROW's STEP -/
set_option maxRecDepth 100000 in
theorem lifted (os : Os) (started : os.Started) (H : Type) (enc : TypeId × Value → H) :
    ReturnsInHanded {} Try.checked os 6 .any (Rows.fnExactPushSpec.pre6 enc Try.prog Try.f6 Rows.fnExactPushRow.domain false) (Rows.fnExactPushSpec.post enc Try.prog Try.f6 false true false false) := by
  refine returnsInHanded_of_change (C := Try.checked) own started (by kernel_rfl) Try.func6
    (ChangeSpec.witness6 (enc := enc) (C := Try.checked) false ⟨#[], #[.agg #[.slice none 0 0], .agg #[.int .i64 0, .int .i64 0], .int .i64 0, .bool false], []⟩ 8 (by kernel_rfl) (by kernel_rfl) (by kernel_rfl) (by kernel_rfl)) ?_
  intro W base args ds gs before hval0 hW hcnd _
  have hval : ∀ (j : Nat) t v, Try.f6.params[j]? = some t → args[j]? = some v → Value.okWide Try.prog W .any base t v := hval0
  have hW' := hW
  have hlt := hW'.lt
  obtain ⟨p, q, hA0, hV, rfl, hfz, hnd⟩ := hW
  have hA : DataW.TrodAll enc Try.prog W 0 (fun _ => true) true Try.f6.params.toList args.toList ds p := hA0
  rw [Try.params6] at hA hval
  have hR := hA
  obtain ⟨v0, vs0, d0, ds0, p0, q0, hargs, rfl, rfl, h0, r0⟩ := trodAll_cons hA
  obtain ⟨v1, vs1, d1, ds1, p1, q1, rfl, rfl, rfl, h1, r1⟩ := trodAll_cons r0
  obtain ⟨v2, vs2, d2, ds2, p2, q2, rfl, rfl, rfl, h2, r2⟩ := trodAll_cons r1
  obtain ⟨v3, vs3, d3, ds3, p3, q3, rfl, rfl, rfl, h3, r3⟩ := trodAll_cons r2
  obtain ⟨rfl, rfl, rfl⟩ := trodAll_nil r3
  obtain rfl : args = #[v0, v1, v2, v3] := by cases args; simp_all
  obtain ⟨rfl, rfl⟩ := trodVars_none hV
  obtain ⟨a0, cap0, xs0, rfl, hs0, hi0, hn0, hc0, hm0⟩ := open_filter (hval 0 27 v0 rfl rfl) h0
  obtain ⟨p1, q1, rfl, ip1, iq1⟩ := open_sample (hval 1 37 v1 rfl rfl) h1
  obtain ⟨a2, rfl, rfl, rfl, w2⟩ := open_int Try.underlying2 (hval 2 2 v2 rfl rfl) h2
  obtain ⟨a3, rfl, rfl, rfl⟩ := open_bool Try.underlying4 (hval 3 4 v3 rfl rfl) h3
  clear hA0 hval0
  refine (walk W a0 cap0 xs0 hs0 hi0 hn0 hc0 hm0 p1 q1 ip1 iq1 a2 w2 a3).mono fun e W' ⟨he, hg⟩ => ?_
  subst he
  exact ⟨_, rfl, _, _, _, [], _, [], hW', (trodAll_cons_mk (shut_bool Try.underlying4 _) trodAll_mk0), trodAll_after table_ok hg (by decide) hR (fun x hx => hlt x (List.mem_append.2 (.inl hx))), rfl, hg.frame _, fun h => by cases h⟩

theorem over : Rows.fnExactPushRow.holds Try.pinned (OpenSpec.ofChange Rows.fnExactPushSpec) :=
  OpenClaim.holds_of_wide 6 Try.f6 rfl rfl rfl rfl rfl rfl rfl ⟨rfl, rfl, rfl, rfl, rfl⟩ rfl rfl rfl rfl rfl (by kernel_rfl) Try.func6 (by kernel_rfl)
    (of_decide_eq_true (by kernel_rfl)) (by unfold Func.isWrapper; first | (rw [if_pos (by decide +kernel)]; kernel_rfl) | (rw [if_neg (by decide +kernel)]; exact ⟨rfl, rfl⟩))
    (fun os started H enc _ => lifted os started H enc)

theorem proved : Rows.FnExactPushSaid := over
#print axioms proved
end Go.Proofs.Ytgekjkdhhbbbkai.fnExactPush
namespace Go.Proofs.Ytgekjkdhhbbbkai
theorem fnExactPush_holds : Rows.FnExactPushSaid := fnExactPush.proved
#print axioms fnExactPush_holds
end Go.Proofs.Ytgekjkdhhbbbkai
