/- Proved: at every wheel and every number impl.Arm answers as spec.Arm does, writes nothing into its argument, and its answer owns its memory (the law FnExactArm returns true and its arguments read as before); no condition. -/
import Derived.Test.YtcmgaaopkhjelakRows
import Derived.WalkKit
import Derived.ProofKit
import Derived.OpenShut
import Derived.ShutString
import Derived.Below
import Derived.Laws.Cover2
import Derived.Test.YtcmgaaopkhjelakWheelBoth
import Derived.Deep.RegionHeld3
import Derived.Deep.DeepCutAuto
namespace Go.Proofs.Ytcmgaaopkhjelak.fnExactArm
open Go.ChangeShapes Go.WideShapes Go.ChangeAt Go.RowKit
set_option linter.unusedVariables false

theorem own : ownKnob Try.prog.godebug = none := by kernel_rfl

set_option linter.unusedSimpArgs false

/-! ### STEP 1: the walk -/
set_option maxHeartbeats 16000000 in
theorem walk (w : World) (t0 : Int) (a0 : Option Addr) (cap0 : Nat) (xs0 : List (Int × Int)) (it0 : I64 t0) (hs0 : Smp w.heap.size w a0 xs0) (hi0 : ∀ x ∈ xs0, I64 x.1 ∧ I64 x.2) (hn0 : a0 = none → xs0 = [] ∧ cap0 = 0) (hc0 : xs0.length ≤ cap0) (hm0 : cap0 ≤ maxLen) (a1 : Int) (w1 : (Lit.int .i64 a1).wf = true) (a2 : Int) (w2 : (Lit.int .i64 a2).wf = true) :
    Calls Try.prog 4 #[.agg #[.int .i64 t0, .slice a0 xs0.length cap0], .int .i64 a1, .int .i64 a2] w fun e w' => e = .returned (.bool true) ∧ Below w.heap.size w w' := by
  have hl : (xs0.length : Int) ≤ 9223372036854775807 := by unfold maxLen at hm0; omega
  by_cases hs : xs0.length ≤ 1048576
  · have hz : (if xs0.length ≤ 1048576 then 1048576 - (xs0.length : Int) else -1) = 1048576 - (xs0.length : Int) := if_pos hs
    have hz' : (0 : Int) ≤ 1048576 - (xs0.length : Int) := by omega
    have C0 : Hid (Cells (w.alloc (.cells #[.int .i64 t0, .slice a0 xs0.length cap0] 24)) [(w.heap.size, 0, .int .i64 t0), (w.heap.size, 1, .slice a0 xs0.length cap0)]) := ⟨⟨by simp, by go_simp⟩, ⟨by simp, by go_simp⟩, trivial⟩
    obtain ⟨T, ys, f, hys, hsp, him⟩ := arms t0 xs0 a1 a2 hl
    have HSP : Hid _ := hsp
    have HIM : Hid _ := him
    clear hsp him
    go_enter Try.func4, Try.ntmps4
    go_upto_region 5 with (first
      | (go_at_call 8; refine (szWheel_any _ _ _ _ _ hl).mono ?_; rintro e v1 ⟨rfl, hb1⟩; rw [hz]; have C : Hid (Cells v1 [(w.heap.size, 0, .int .i64 t0), (w.heap.size, 1, .slice a0 xs0.length cap0)]) := C0.out.next hb1; have hbw := below_step (w := w) (by go_grown) hb1; have ⟨⟨kz0, k0⟩, ⟨kz1, k1⟩, _⟩ := C.out; have zw := hbw.size))
    clear C0
    go_upto_region 6 with (first
      | (go_at_call 10; refine (toWheel_any t0 cap0 (hs0.here (by go_grown)) hs).mono ?_; rintro e vF ⟨gF, rfl, hg0, hg1, fF, hbF⟩; have hbw := below_step (w := w) (by go_grown) hbF; have C : Hid (Cells vF [(w.heap.size, 0, .int .i64 t0), (w.heap.size, 1, .slice a0 xs0.length cap0)]) := C.out.next (below_step (by go_grown) hbF); have ⟨⟨kz0, k0⟩, ⟨kz1, k1⟩, _⟩ := C.out; have zw := hbw.size; have zF := hbF.size; (try simp at hg0))
      | (go_at_call 13; refine (HSP.out _ _ _ (fF.smp hg1)).mono ?_; rintro e vP ⟨a8, n8, c8, rfl, hfv, hbP⟩; have hbw := below_step (w := w) (by go_grown) hbP; have C : Hid (Cells vP [(w.heap.size, 0, .int .i64 t0), (w.heap.size, 1, .slice a0 xs0.length cap0)]) := C.out.next (below_step (by go_grown) hbP); have ⟨⟨kz0, k0⟩, ⟨kz1, k1⟩, _⟩ := C.out; have zw := hbw.size; have zP := hbP.size))
    obtain ⟨va, hv⟩ : ∃ v, v = vP.alloc (.cells #[.int .i64 T, .slice a8 n8 c8] 29) := ⟨_, rfl⟩
    rw [← hv]
    have hbA : Below vP.heap.size vP va := by rw [hv]; exact new_below _ _
    have cA0 : va.cell? ⟨vP.heap.size, 0, none⟩ = some (.int .i64 T) := by rw [hv]; go_simp
    have cA1 : va.cell? ⟨vP.heap.size, 1, none⟩ = some (.slice a8 n8 c8) := by rw [hv]; go_simp
    have zA : vP.heap.size < va.heap.size := by rw [hv]; simp
    clear hv
    obtain ⟨b8, hb8⟩ : ∃ b, b = vP.heap.size := ⟨_, rfl⟩
    rw [← hb8] at cA0 cA1 ⊢
    have yb8 : b8 < va.heap.size := by omega
    have lb8 : vP.heap.size ≤ b8 ∧ b8 ≤ vP.heap.size := by omega
    clear hb8
    have hbw := below_step hbw hbA
    have C : Hid (Cells va [(w.heap.size, 0, .int .i64 t0), (w.heap.size, 1, .slice a0 xs0.length cap0), (b8, 0, .int .i64 T), (b8, 1, .slice a8 n8 c8)]) := by
      obtain ⟨c0, c1, _⟩ := C.out.next hbA
      exact ⟨c0, c1, ⟨yb8, cA0⟩, ⟨yb8, cA1⟩, trivial⟩
    have ⟨⟨kz0, k0⟩, ⟨kz1, k1⟩, ⟨kz2, k2⟩, ⟨kz3, k3⟩, _⟩ := C.out
    have zw := hbw.size
    have fv8 := hfv.next hbA
    have u8 : ∀ g, roomB (.slice a8 n8 c8) = some g → v1.heap.size ≤ g ∧ g < b8 := fun g hg => (by have := hfv.own hg; omega)
    clear hfv
    go_upto_region 7 with (first
      | (go_at_call 10; refine (toWheel_any t0 cap0 (hs0.here (by go_grown)) hs).mono ?_; rintro e vX ⟨gx, rfl, hg0, hg1, fF, hbF⟩; have hbw := below_step (w := w) (by go_grown) hbF; have C : Hid (Cells vX [(w.heap.size, 0, .int .i64 t0), (w.heap.size, 1, .slice a0 xs0.length cap0), (b8, 0, .int .i64 T), (b8, 1, .slice a8 n8 c8)]) := C.out.next (below_step (by go_grown) hbF); have ⟨⟨kz0, k0⟩, ⟨kz1, k1⟩, ⟨kz2, k2⟩, ⟨kz3, k3⟩, _⟩ := C.out; have fv8 := fv8.next (below_step (by go_grown) hbF); have zw := hbw.size; have zF := hbF.size; (try simp at hg0)))
    have fx := fF
    have hx0 := hg0
    have hx1 := hg1
    obtain ⟨v2, hv⟩ : ∃ v, v = vX.alloc (.cells #[.int .i64 t0, .slice (some ⟨gx, 0, none⟩) xs0.length xs0.length] 29) := ⟨_, rfl⟩
    rw [← hv]
    have hbA : Below vX.heap.size vX v2 := by rw [hv]; exact new_below _ _
    have cA0 : v2.cell? ⟨vX.heap.size, 0, none⟩ = some (.int .i64 t0) := by rw [hv]; go_simp
    have cA1 : v2.cell? ⟨vX.heap.size, 1, none⟩ = some (.slice (some ⟨gx, 0, none⟩) xs0.length xs0.length) := by rw [hv]; go_simp
    have zA : vX.heap.size < v2.heap.size := by rw [hv]; simp
    clear hv
    obtain ⟨b10, hb10⟩ : ∃ b, b = vX.heap.size := ⟨_, rfl⟩
    rw [← hb10] at cA0 cA1 ⊢
    have yb10 : b10 < v2.heap.size := by omega
    have lb10 : vX.heap.size ≤ b10 ∧ b10 ≤ vX.heap.size := by omega
    clear hb10
    have hbw := below_step hbw hbA
    have C : Hid (Cells v2 [(w.heap.size, 0, .int .i64 t0), (w.heap.size, 1, .slice a0 xs0.length cap0), (b8, 0, .int .i64 T), (b8, 1, .slice a8 n8 c8), (b10, 0, .int .i64 t0), (b10, 1, .slice (some ⟨gx, 0, none⟩) xs0.length xs0.length)]) := by
      obtain ⟨c0, c1, c2, c3, _⟩ := C.out.next hbA
      exact ⟨c0, c1, c2, c3, ⟨yb10, cA0⟩, ⟨yb10, cA1⟩, trivial⟩
    have ⟨⟨kz0, k0⟩, ⟨kz1, k1⟩, ⟨kz2, k2⟩, ⟨kz3, k3⟩, ⟨kz4, k4⟩, ⟨kz5, k5⟩, _⟩ := C.out
    have fv8 := fv8.next hbA
    have zw := hbw.size
    have fvx : FW v2 va.heap.size (.slice (some ⟨gx, 0, none⟩) xs0.length xs0.length) xs0 := (show FW vX va.heap.size _ xs0 from .inl ⟨gx, _, rfl, hx0, hx1, fx, Nat.le_refl _⟩).next hbA
    have sx : Smp v2.heap.size v2 (some ⟨gx, 0, none⟩) xs0 := (fx.smp hx1).here hbA
    go_upto_region 8 with (first
      | (go_at_call 14; refine (HIM.out _ _ _ (sx.here (by go_grown)) (Nat.le_refl _) (by intro e; cases e)).mono ?_; rintro e vI ⟨a11, n11, c11, rfl, hfv, hbP⟩; have hbw := below_step (w := w) (by go_grown) hbP; have C : Hid (Cells vI [(w.heap.size, 0, .int .i64 t0), (w.heap.size, 1, .slice a0 xs0.length cap0), (b8, 0, .int .i64 T), (b8, 1, .slice a8 n8 c8), (b10, 0, .int .i64 t0), (b10, 1, .slice (some ⟨gx, 0, none⟩) xs0.length xs0.length)]) := C.out.next (below_step (by go_grown) hbP); have ⟨⟨kz0, k0⟩, ⟨kz1, k1⟩, ⟨kz2, k2⟩, ⟨kz3, k3⟩, ⟨kz4, k4⟩, ⟨kz5, k5⟩, _⟩ := C.out; have fv8 := fv8.next (below_step (by go_grown) hbP); have fvx := fvx.next (below_step (by go_grown) hbP); have zw := hbw.size; have zP := hbP.size))
    obtain ⟨v3, hv⟩ : ∃ v, v = vI.alloc (.cells #[.int .i64 T, .slice a11 n11 c11] 29) := ⟨_, rfl⟩
    rw [← hv]
    have hbA : Below vI.heap.size vI v3 := by rw [hv]; exact new_below _ _
    have cA0 : v3.cell? ⟨vI.heap.size, 0, none⟩ = some (.int .i64 T) := by rw [hv]; go_simp
    have cA1 : v3.cell? ⟨vI.heap.size, 1, none⟩ = some (.slice a11 n11 c11) := by rw [hv]; go_simp
    have zA : vI.heap.size < v3.heap.size := by rw [hv]; simp
    clear hv
    obtain ⟨b11, hb11⟩ : ∃ b, b = vI.heap.size := ⟨_, rfl⟩
    rw [← hb11] at cA0 cA1 ⊢
    have yb11 : b11 < v3.heap.size := by omega
    have lb11 : vI.heap.size ≤ b11 ∧ b11 ≤ vI.heap.size := by omega
    clear hb11
    have hbw := below_step hbw hbA
    have C : Hid (Cells v3 [(w.heap.size, 0, .int .i64 t0), (w.heap.size, 1, .slice a0 xs0.length cap0), (b8, 0, .int .i64 T), (b8, 1, .slice a8 n8 c8), (b10, 0, .int .i64 t0), (b10, 1, .slice (some ⟨gx, 0, none⟩) xs0.length xs0.length), (b11, 0, .int .i64 T), (b11, 1, .slice a11 n11 c11)]) := by
      obtain ⟨c0, c1, c2, c3, c4, c5, _⟩ := C.out.next hbA
      exact ⟨c0, c1, c2, c3, c4, c5, ⟨yb11, cA0⟩, ⟨yb11, cA1⟩, trivial⟩
    have ⟨⟨kz0, k0⟩, ⟨kz1, k1⟩, ⟨kz2, k2⟩, ⟨kz3, k3⟩, ⟨kz4, k4⟩, ⟨kz5, k5⟩, ⟨kz6, k6⟩, ⟨kz7, k7⟩, _⟩ := C.out
    have fv8 := fv8.next hbA
    have fvx := fvx.next hbA
    have zw := hbw.size
    have fv11 := hfv.next hbA
    have u11 : ∀ g, roomB (.slice a11 n11 c11) = some g → v2.heap.size ≤ g ∧ g < b11 := fun g hg => (by have := hfv.own hg; omega)
    clear hfv
    go_upto_region 10 with (first
      | (go_at_call 12; refine (eqW_any T T fv11 fv8 (by omega)).mono ?_; rintro e v4 ⟨rfl, hbE⟩; rw [show (decide (T = T) && decide (ys = ys)) = true from by simp]; have hbw := below_step (w := w) (by go_grown) hbE; have C : Hid (Cells v4 [(w.heap.size, 0, .int .i64 t0), (w.heap.size, 1, .slice a0 xs0.length cap0), (b8, 0, .int .i64 T), (b8, 1, .slice a8 n8 c8), (b10, 0, .int .i64 t0), (b10, 1, .slice (some ⟨gx, 0, none⟩) xs0.length xs0.length), (b11, 0, .int .i64 T), (b11, 1, .slice a11 n11 c11)]) := C.out.next (below_step (by go_grown) hbE); have ⟨⟨kz0, k0⟩, ⟨kz1, k1⟩, ⟨kz2, k2⟩, ⟨kz3, k3⟩, ⟨kz4, k4⟩, ⟨kz5, k5⟩, ⟨kz6, k6⟩, ⟨kz7, k7⟩, _⟩ := C.out; have fv8 := fv8.next (below_step (by go_grown) hbE); have fvx := fvx.next (below_step (by go_grown) hbE); have fv11 := fv11.next (below_step (by go_grown) hbE); have zw := hbw.size; have zE := hbE.size))
    go_cut [53] from 49 (fun s wd => s = .bool false ∧ Below v4.heap.size v4 wd)
    case first =>
        have fvx4 := fvx
        clear C
        set_option maxRecDepth 100000 in
        go_region_held3 (fun w' => w'.cell? ⟨w.heap.size, 0, none⟩ = some (.int .i64 t0) ∧ w'.cell? ⟨w.heap.size, 1, none⟩ = some (.slice a0 xs0.length cap0) ∧ w'.cell? ⟨b8, 0, none⟩ = some (.int .i64 T) ∧ w'.cell? ⟨b8, 1, none⟩ = some (.slice a8 n8 c8) ∧ w'.cell? ⟨b10, 0, none⟩ = some (.int .i64 t0) ∧ w'.cell? ⟨b10, 1, none⟩ = some (.slice (some ⟨gx, 0, none⟩) xs0.length xs0.length) ∧ w'.cell? ⟨b11, 0, none⟩ = some (.int .i64 T) ∧ w'.cell? ⟨b11, 1, none⟩ = some (.slice a11 n11 c11)) (first | (refine ⟨?_, ?_, ?_, ?_, ?_, ?_, ?_, ?_⟩ <;> first | assumption | (simp only [World.cell?_drew]; assumption)) | go_keep)
          (first
            | (go_at_call 10; refine (toWheel_any t0 cap0 (hs0.here (by go_grown)) hs).mono ?_; rintro e vF ⟨gF, rfl, hgF0, hgF1, fF, hbF⟩; (try simp at hgF0); have kc := below_cells hbF; have kf := below_frozens hbF; have hr := below_step (w := v4) (by go_grown) hbF; have hbw := below_step (w := w) (by go_grown) hbF; have zr := hr.size; have zw := hbw.size; have j0 := (below_cells hr _ _ kz0).trans k0; have j1 := (below_cells hr _ _ kz1).trans k1; have j2 := (below_cells hr _ _ kz2).trans k2; have j3 := (below_cells hr _ _ kz3).trans k3; have j4 := (below_cells hr _ _ kz4).trans k4; have j5 := (below_cells hr _ _ kz5).trans k5; have j6 := (below_cells hr _ _ kz6).trans k6; have j7 := (below_cells hr _ _ kz7).trans k7)
            | (go_at_call 12; refine (eqW_any t0 t0 (fvx4.next hr) (show FW vF _ _ xs0 from .inl ⟨gF, _, rfl, hgF0, hgF1, fF, Nat.le_refl _⟩) (by omega)).mono ?_; rintro e vE ⟨rfl, hbE⟩; rw [show (decide (t0 = t0) && decide (xs0 = xs0)) = true from by simp]; have kc := below_cells hbE; have kf := below_frozens hbE; have hr := below_step (w := v4) (by go_grown) hbE; have hbw := below_step (w := w) (by go_grown) hbE; have zr := hr.size; have zw := hbw.size; have j0 := (below_cells hr _ _ kz0).trans k0; have j1 := (below_cells hr _ _ kz1).trans k1; have j2 := (below_cells hr _ _ kz2).trans k2; have j3 := (below_cells hr _ _ kz3).trans k3; have j4 := (below_cells hr _ _ kz4).trans k4; have j5 := (below_cells hr _ _ kz5).trans k5; have j6 := (below_cells hr _ _ kz6).trans k6; have j7 := (below_cells hr _ _ kz7).trans k7))
        all_goals (repeat go_step)
        all_goals go_meet
        all_goals exact ⟨rfl, hr⟩
    case rest =>
    obtain ⟨v5, hv5⟩ : ∃ v5, v5 = wc := ⟨_, rfl⟩
    subst hv5
    obtain ⟨rfl, hb5⟩ := hcut
    have hbw := below_step (w := w) (by go_grown) hb5; have C : Hid (Cells v5 [(w.heap.size, 0, .int .i64 t0), (w.heap.size, 1, .slice a0 xs0.length cap0), (b8, 0, .int .i64 T), (b8, 1, .slice a8 n8 c8), (b10, 0, .int .i64 t0), (b10, 1, .slice (some ⟨gx, 0, none⟩) xs0.length xs0.length), (b11, 0, .int .i64 T), (b11, 1, .slice a11 n11 c11)]) := C.out.next (below_step (by go_grown) hb5); have ⟨⟨kz0, k0⟩, ⟨kz1, k1⟩, ⟨kz2, k2⟩, ⟨kz3, k3⟩, ⟨kz4, k4⟩, ⟨kz5, k5⟩, ⟨kz6, k6⟩, ⟨kz7, k7⟩, _⟩ := C.out; have fv8 := fv8.next (below_step (by go_grown) hb5); have fvx := fvx.next (below_step (by go_grown) hb5); have fv11 := fv11.next (below_step (by go_grown) hb5); have zw := hbw.size
    have C : Hid (Cells v5 [(w.heap.size, 0, .int .i64 t0), (w.heap.size, 1, .slice a0 xs0.length cap0), (b8, 0, .int .i64 T), (b8, 1, .slice a8 n8 c8), (b11, 0, .int .i64 T), (b11, 1, .slice a11 n11 c11)]) := by
      obtain ⟨c0, c1, c2, c3, c4, c5, c6, c7, _⟩ := C.out
      exact ⟨c0, c1, c2, c3, c6, c7, trivial⟩
    have hkb : decide (1 + 2 * (xs0.length : Int) < 0) = false := decide_eq_false (by omega)
    have hkc : decide (1 + 2 * (ys.length : Int) < 0) = false := decide_eq_false (by omega)
    have ux : ∀ g, roomB (.slice (some ⟨gx, 0, none⟩) xs0.length xs0.length) = some g → gx = g := fun g hg => Option.some.inj (room_own hg)
    go_upto_region 24 with (first
      | (go_at_call 15; have g1 := mk1; refine (markW_any T 1 fv11 (by omega) (by omega) (by omega)).mono ?_; rintro e v7 ⟨rfl, fm11, ho7⟩; have hbw := hbw.trans (ho7.below (fun g hg => (by have := u11 g hg; omega)) (by omega)); have C : Hid (Cells v7 [(w.heap.size, 0, .int .i64 t0), (w.heap.size, 1, .slice a0 xs0.length cap0), (b8, 0, .int .i64 T), (b8, 1, .slice a8 n8 c8), (b11, 0, .int .i64 T), (b11, 1, .slice a11 n11 c11)]) := Cells.onlyO ho7 (by intro c hc e; simp only [List.mem_cons, List.not_mem_nil, or_false] at hc; have u := u11 _ e; rcases hc with rfl | rfl | rfl | rfl | rfl | rfl <;> (simp only at u; omega)) C.out; have ⟨⟨kz0, k0⟩, ⟨kz1, k1⟩, ⟨kz2, k2⟩, ⟨kz3, k3⟩, ⟨kz4, k4⟩, ⟨kz5, k5⟩, _⟩ := C.out; have fv8 := fv8.onlyO ho7 (fun g hg e => (by have := u8 g hg; have := u11 g e; omega)); have mk2 := ho7; have zw := hbw.size)
      | (go_at_call 15; refine (markW_any t0 1 fvx hs (by omega) (by omega)).mono ?_; rintro e v6 ⟨rfl, fmx, ho6⟩; have hbw := hbw.trans (ho6.below (fun g hg => (by have := ux g hg; omega)) (by omega)); have C : Hid (Cells v6 [(w.heap.size, 0, .int .i64 t0), (w.heap.size, 1, .slice a0 xs0.length cap0), (b8, 0, .int .i64 T), (b8, 1, .slice a8 n8 c8), (b11, 0, .int .i64 T), (b11, 1, .slice a11 n11 c11)]) := Cells.onlyO ho6 (by intro c hc e; simp only [List.mem_cons, List.not_mem_nil, or_false] at hc; have u := ux _ e; rcases hc with rfl | rfl | rfl | rfl | rfl | rfl <;> (simp only at u; omega)) C.out; have ⟨⟨kz0, k0⟩, ⟨kz1, k1⟩, ⟨kz2, k2⟩, ⟨kz3, k3⟩, ⟨kz4, k4⟩, ⟨kz5, k5⟩, _⟩ := C.out; have fv8 := fv8.onlyO ho6 (fun g hg e => (by have := u8 g hg; have := ux g e; omega)); have fv11 := fv11.onlyO ho6 (fun g hg e => (by have := u11 g hg; have := ux g e; omega)); have mk1 := ho6; have zw := hbw.size)
      | (go_at_call 16; have g1 := mk2; refine (heldW_any T 1 fm11 (by omega) (by omega) (by omega)).mono ?_; rintro e v8 ⟨rfl, hb8⟩; have hbw := below_step (w := w) (by go_grown) hb8; have C : Hid (Cells v8 [(w.heap.size, 0, .int .i64 t0), (w.heap.size, 1, .slice a0 xs0.length cap0), (b8, 0, .int .i64 T), (b8, 1, .slice a8 n8 c8), (b11, 0, .int .i64 T), (b11, 1, .slice a11 n11 c11)]) := C.out.next (below_step (by go_grown) hb8); have ⟨⟨kz0, k0⟩, ⟨kz1, k1⟩, ⟨kz2, k2⟩, ⟨kz3, k3⟩, ⟨kz4, k4⟩, ⟨kz5, k5⟩, _⟩ := C.out; have fv8 := fv8.next (below_step (by go_grown) hb8); have fm11 := fm11.next (below_step (by go_grown) hb8); have zw := hbw.size)
      | (go_at_call 12; refine (eqW_any T T fv11 fv8 (by omega)).mono ?_; rintro e v6e ⟨rfl, hbE⟩; rw [show (decide (T = T) && decide (ys = ys)) = true from by simp]; have hbw := below_step (w := w) (by go_grown) hbE; have C : Hid (Cells v6e [(w.heap.size, 0, .int .i64 t0), (w.heap.size, 1, .slice a0 xs0.length cap0), (b8, 0, .int .i64 T), (b8, 1, .slice a8 n8 c8), (b11, 0, .int .i64 T), (b11, 1, .slice a11 n11 c11)]) := C.out.next (below_step (by go_grown) hbE); have ⟨⟨kz0, k0⟩, ⟨kz1, k1⟩, ⟨kz2, k2⟩, ⟨kz3, k3⟩, ⟨kz4, k4⟩, ⟨kz5, k5⟩, _⟩ := C.out; have fv8 := fv8.next (below_step (by go_grown) hbE); have fv11 := fv11.next (below_step (by go_grown) hbE); have zw := hbw.size; have zE := hbE.size))
    go_upto_region 25 with (first
      | (go_at_call 10; refine (toWheel_any t0 cap0 (hs0.here (by go_grown)) hs).mono ?_; rintro e vG ⟨gG, rfl, hg0, hg1, fF, hbF⟩; have hbw := below_step (w := w) (by go_grown) hbF; have C : Hid (Cells vG [(w.heap.size, 0, .int .i64 t0), (w.heap.size, 1, .slice a0 xs0.length cap0), (b8, 0, .int .i64 T), (b8, 1, .slice a8 n8 c8), (b11, 0, .int .i64 T), (b11, 1, .slice a11 n11 c11)]) := C.out.next (below_step (by go_grown) hbF); have ⟨⟨kz0, k0⟩, ⟨kz1, k1⟩, ⟨kz2, k2⟩, ⟨kz3, k3⟩, ⟨kz4, k4⟩, ⟨kz5, k5⟩, _⟩ := C.out; have fv8 := fv8.next (below_step (by go_grown) hbF); have fm11 := fm11.next (below_step (by go_grown) hbF); have zw := hbw.size; have zF := hbF.size; (try simp at hg0))
      | (go_at_call 14; refine (HIM.out _ _ _ (fF.smp hg1) (Nat.le_refl _) (by intro e; cases e)).mono ?_; rintro e vH ⟨a16, n16, c16, rfl, hfv, hbP⟩; have hbw := below_step (w := w) (by go_grown) hbP; have C : Hid (Cells vH [(w.heap.size, 0, .int .i64 t0), (w.heap.size, 1, .slice a0 xs0.length cap0), (b8, 0, .int .i64 T), (b8, 1, .slice a8 n8 c8), (b11, 0, .int .i64 T), (b11, 1, .slice a11 n11 c11)]) := C.out.next (below_step (by go_grown) hbP); have ⟨⟨kz0, k0⟩, ⟨kz1, k1⟩, ⟨kz2, k2⟩, ⟨kz3, k3⟩, ⟨kz4, k4⟩, ⟨kz5, k5⟩, _⟩ := C.out; have fv8 := fv8.next (below_step (by go_grown) hbP); have fm11 := fm11.next (below_step (by go_grown) hbP); have zw := hbw.size; have zP := hbP.size))
    obtain ⟨v9, hv⟩ : ∃ v, v = vH.alloc (.cells #[.int .i64 T, .slice a16 n16 c16] 29) := ⟨_, rfl⟩
    rw [← hv]
    have hbA : Below vH.heap.size vH v9 := by rw [hv]; exact new_below _ _
    have cA0 : v9.cell? ⟨vH.heap.size, 0, none⟩ = some (.int .i64 T) := by rw [hv]; go_simp
    have cA1 : v9.cell? ⟨vH.heap.size, 1, none⟩ = some (.slice a16 n16 c16) := by rw [hv]; go_simp
    have zA : vH.heap.size < v9.heap.size := by rw [hv]; simp
    clear hv
    obtain ⟨b16, hb16⟩ : ∃ b, b = vH.heap.size := ⟨_, rfl⟩
    rw [← hb16] at cA0 cA1 ⊢
    have yb16 : b16 < v9.heap.size := by omega
    have lb16 : vH.heap.size ≤ b16 ∧ b16 ≤ vH.heap.size := by omega
    clear hb16
    have hbw := below_step hbw hbA
    have C : Hid (Cells v9 [(w.heap.size, 0, .int .i64 t0), (w.heap.size, 1, .slice a0 xs0.length cap0), (b8, 0, .int .i64 T), (b8, 1, .slice a8 n8 c8), (b11, 0, .int .i64 T), (b11, 1, .slice a11 n11 c11), (b16, 0, .int .i64 T), (b16, 1, .slice a16 n16 c16)]) := by
      obtain ⟨c0, c1, c2, c3, c4, c5, _⟩ := C.out.next hbA
      exact ⟨c0, c1, c2, c3, c4, c5, ⟨yb16, cA0⟩, ⟨yb16, cA1⟩, trivial⟩
    have ⟨⟨kz0, k0⟩, ⟨kz1, k1⟩, ⟨kz2, k2⟩, ⟨kz3, k3⟩, ⟨kz4, k4⟩, ⟨kz5, k5⟩, ⟨kz6, k6⟩, ⟨kz7, k7⟩, _⟩ := C.out
    have fv8 := fv8.next hbA
    have fm11 := fm11.next hbA
    have zw := hbw.size
    have fv16 := hfv.next hbA
    go_wp2_with (first
      | (go_at_call 16; refine (heldW_any T 1 fm11 (by omega) (by omega) (by omega)).mono ?_; rintro e v11 ⟨rfl, hb11⟩; have hbw := below_step (w := w) (by go_grown) hb11; have C : Hid (Cells v11 [(w.heap.size, 0, .int .i64 t0), (w.heap.size, 1, .slice a0 xs0.length cap0), (b8, 0, .int .i64 T), (b8, 1, .slice a8 n8 c8), (b11, 0, .int .i64 T), (b11, 1, .slice a11 n11 c11), (b16, 0, .int .i64 T), (b16, 1, .slice a16 n16 c16)]) := C.out.next (below_step (by go_grown) hb11); have ⟨⟨kz0, k0⟩, ⟨kz1, k1⟩, ⟨kz2, k2⟩, ⟨kz3, k3⟩, ⟨kz4, k4⟩, ⟨kz5, k5⟩, ⟨kz6, k6⟩, ⟨kz7, k7⟩, _⟩ := C.out; have fv8 := fv8.next (below_step (by go_grown) hb11); have fv16 := fv16.next (below_step (by go_grown) hb11); have zw := hbw.size)
      | (go_at_call 12; refine (eqW_any T T fv16 fv8 (by omega)).mono ?_; rintro e v10 ⟨rfl, hbE⟩; rw [show (decide (T = T) && decide (ys = ys)) = true from by simp]; have hbw := below_step (w := w) (by go_grown) hbE; have C : Hid (Cells v10 [(w.heap.size, 0, .int .i64 t0), (w.heap.size, 1, .slice a0 xs0.length cap0), (b8, 0, .int .i64 T), (b8, 1, .slice a8 n8 c8), (b11, 0, .int .i64 T), (b11, 1, .slice a11 n11 c11), (b16, 0, .int .i64 T), (b16, 1, .slice a16 n16 c16)]) := C.out.next (below_step (by go_grown) hbE); have ⟨⟨kz0, k0⟩, ⟨kz1, k1⟩, ⟨kz2, k2⟩, ⟨kz3, k3⟩, ⟨kz4, k4⟩, ⟨kz5, k5⟩, ⟨kz6, k6⟩, ⟨kz7, k7⟩, _⟩ := C.out; have fv8 := fv8.next (below_step (by go_grown) hbE); have fm11 := fm11.next (below_step (by go_grown) hbE); have fv16 := fv16.next (below_step (by go_grown) hbE); have zw := hbw.size; have zE := hbE.size))
    go_ret
    exact ⟨rfl, hbw⟩
  · have hz : (if xs0.length ≤ 1048576 then 1048576 - (xs0.length : Int) else -1) = -1 := if_neg hs
    go_enter Try.func4, Try.ntmps4
    go_wp2_with (first
      | (go_at_call 8; refine (szWheel_any _ _ _ _ _ hl).mono ?_; rintro e v1 ⟨rfl, hb1⟩; rw [hz]; have hbw := below_step (w := w) (by go_grown) hb1)
      | go_in)
    go_ret
    exact ⟨rfl, hbw⟩

/-! ### THE ROW's STEP -/
set_option maxRecDepth 100000 in
theorem lifted (os : Os) (started : os.Started) (H : Type) (enc : TypeId × Value → H) :
    ReturnsInHanded {} Try.checked os 4 .any (Rows.fnExactArmSpec.pre6 enc Try.prog Try.f4 Rows.fnExactArmRow.domain false) (Rows.fnExactArmSpec.post enc Try.prog Try.f4 false true false false) := by
  refine returnsInHanded_of_change (C := Try.checked) own started (by kernel_rfl) Try.func4
    (ChangeSpec.witness6 (enc := enc) (C := Try.checked) false ⟨#[], #[.agg #[.int .i64 0, .slice none 0 0], .int .i64 0, .int .i64 0], []⟩ 8 (by kernel_rfl) (by kernel_rfl) (by kernel_rfl) (by kernel_rfl)) ?_
  intro W base args ds gs before hval0 hW hcnd _
  have hval : ∀ (j : Nat) t v, Try.f4.params[j]? = some t → args[j]? = some v → Value.okWide Try.prog W .any base t v := hval0
  have hW' := hW
  have hlt := hW'.lt
  obtain ⟨p, q, hA0, hV, rfl, hfz, hnd⟩ := hW
  have hA : DataW.TrodAll enc Try.prog W 0 (fun _ => true) true Try.f4.params.toList args.toList ds p := hA0
  rw [Try.params4] at hA hval
  have hR := hA
  obtain ⟨v0, vs0, d0, ds0, p0, q0, hargs, rfl, rfl, h0, r0⟩ := trodAll_cons hA
  obtain ⟨v1, vs1, d1, ds1, p1, q1, rfl, rfl, rfl, h1, r1⟩ := trodAll_cons r0
  obtain ⟨v2, vs2, d2, ds2, p2, q2, rfl, rfl, rfl, h2, r2⟩ := trodAll_cons r1
  obtain ⟨rfl, rfl, rfl⟩ := trodAll_nil r2
  obtain rfl : args = #[v0, v1, v2] := by cases args; simp_all
  obtain ⟨rfl, rfl⟩ := trodVars_none hV
  obtain ⟨t0, a0, cap0, xs0, rfl, it0, hs0, hi0, hn0, hc0, hm0⟩ := open_wheel (hval 0 24 v0 rfl rfl) h0
  obtain ⟨a1, rfl, rfl, rfl, w1⟩ := open_int Try.underlying2 (hval 1 2 v1 rfl rfl) h1
  obtain ⟨a2, rfl, rfl, rfl, w2⟩ := open_int Try.underlying2 (hval 2 2 v2 rfl rfl) h2
  clear hA0 hval0
  refine (walk W t0 a0 cap0 xs0 it0 hs0 hi0 hn0 hc0 hm0 a1 w1 a2 w2).mono fun e W' ⟨he, hg⟩ => ?_
  subst he
  exact ⟨_, rfl, _, _, _, [], _, [], hW', (trodAll_cons_mk (shut_bool Try.underlying4 _) trodAll_mk0), trodAll_after table_ok hg (by decide) hR (fun x hx => hlt x (List.mem_append.2 (.inl hx))), rfl, hg.frame _, fun h => by cases h⟩

theorem over : Rows.fnExactArmRow.holds Try.pinned (OpenSpec.ofChange Rows.fnExactArmSpec) :=
  OpenClaim.holds_of_wide 4 Try.f4 rfl rfl rfl rfl rfl rfl rfl ⟨rfl, rfl, rfl, rfl, rfl⟩ rfl rfl rfl rfl rfl (by kernel_rfl) Try.func4 (by kernel_rfl)
    (of_decide_eq_true (by kernel_rfl)) (by unfold Func.isWrapper; first | (rw [if_pos (by decide +kernel)]; kernel_rfl) | (rw [if_neg (by decide +kernel)]; exact ⟨rfl, rfl⟩))
    (fun os started H enc _ => lifted os started H enc)

theorem proved : Rows.FnExactArmSaid := over
#print axioms proved
end Go.Proofs.Ytcmgaaopkhjelak.fnExactArm
namespace Go.Proofs.Ytcmgaaopkhjelak
theorem fnExactArm_holds : Rows.FnExactArmSaid := fnExactArm.proved
#print axioms fnExactArm_holds
end Go.Proofs.Ytcmgaaopkhjelak
