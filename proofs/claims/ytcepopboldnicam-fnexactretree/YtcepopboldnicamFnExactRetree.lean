/- Proved: at every Lend, every list of classes and every number impl.Retree answers as spec.Retree does, writes nothing into its arguments, and its answer owns its memory (the law FnExactRetree returns true and its arguments read as before); no condition. -/
import Derived.Test.YtcepopboldnicamRows
import Derived.WalkKit
import Derived.ProofKit
import Derived.OpenShut
import Derived.ShutString
import Derived.Below
import Derived.Laws.Cover2
import Derived.Test.YtcepopboldnicamRetreeBoth
import Derived.Test.YtcepopboldnicamGrpL
import Derived.Test.YtcepopboldnicamGrpA
import Derived.Deep.RegionHeld3
import Derived.Deep.DeepCutAuto
namespace Go.Proofs.Ytcepopboldnicam.fnExactRetree
open Go.ChangeShapes Go.WideShapes Go.ChangeAt Go.RowKit
set_option linter.unusedVariables false

theorem own : ownKnob Try.prog.godebug = none := by kernel_rfl

set_option linter.unusedSimpArgs false

/-! ### STEP 1: the walk -/
set_option maxHeartbeats 16000000 in
theorem walk (w : World) (aT0 : Option Addr) (cT0 : Nat) (T0 : List Q4) (aO0 : Option Addr) (cO0 : Nat) (O0 : List Q4) (aP0 : Option Addr) (cP0 : Nat) (P0 : List Q4) (qT0 : Quad w.heap.size w aT0 T0) (qO0 : Quad w.heap.size w aO0 O0) (qP0 : Quad w.heap.size w aP0 P0) (mT0 : T0.length ≤ maxLen) (mO0 : O0.length ≤ maxLen) (mP0 : P0.length ≤ maxLen) (a1 : Option Addr) (cap1 : Nat) (xs1 : List Q4) (hs1 : Quad w.heap.size w a1 xs1) (hi1 : ∀ x ∈ xs1, I64 x.1 ∧ I64 x.2.1 ∧ I64 x.2.2.1 ∧ I64 x.2.2.2) (hn1 : a1 = none → xs1 = [] ∧ cap1 = 0) (hc1 : xs1.length ≤ cap1) (hm1 : cap1 ≤ maxLen) (a2 : Int) (w2 : (Lit.int .i64 a2).wf = true) :
    Calls Try.prog 5 #[.agg #[.slice aT0 T0.length cT0, .slice aO0 O0.length cO0, .slice aP0 P0.length cP0], .slice a1 xs1.length cap1, .int .i64 a2] w fun e w' => e = .returned (.bool true) ∧ Below w.heap.size w w' := by
  have hlT : (T0.length : Int) ≤ 9223372036854775807 := by unfold maxLen at mT0; omega
  have hlO : (O0.length : Int) ≤ 9223372036854775807 := by unfold maxLen at mO0; omega
  have hlP : (P0.length : Int) ≤ 9223372036854775807 := by unfold maxLen at mP0; omega
  by_cases hs : T0.length + O0.length + P0.length ≤ 1048576
  · have hz : (if T0.length + O0.length + P0.length ≤ 1048576 then 1048576 - (T0.length : Int) - (O0.length : Int) - (P0.length : Int) else -1) = 1048576 - (T0.length : Int) - (O0.length : Int) - (P0.length : Int) := if_pos hs
    have hz' : (0 : Int) ≤ 1048576 - (T0.length : Int) - (O0.length : Int) - (P0.length : Int) := by omega
    have hsT : T0.length ≤ 1048576 := by omega
    have hsO : O0.length ≤ 1048576 := by omega
    have hsP : P0.length ≤ 1048576 := by omega
    have C0 : Hid (Cells (w.alloc (.cells #[.slice aT0 T0.length cT0, .slice aO0 O0.length cO0, .slice aP0 P0.length cP0] 25)) [(w.heap.size, 0, .slice aT0 T0.length cT0), (w.heap.size, 1, .slice aO0 O0.length cO0), (w.heap.size, 2, .slice aP0 P0.length cP0)]) := ⟨⟨by simp, by go_simp⟩, ⟨by simp, by go_simp⟩, ⟨by simp, by go_simp⟩, trivial⟩
    have hlS : (xs1.length : Int) ≤ 9223372036854775807 := by unfold maxLen at hm1; omega
    by_cases hsC' : (xs1.length : Int) ≤ 1048576 - (T0.length : Int) - (O0.length : Int) - (P0.length : Int)
    · have hsC : xs1.length ≤ 1048576 := by omega
      have hz2 : (0 : Int) ≤ 1048576 - (T0.length : Int) - (O0.length : Int) - (P0.length : Int) - (xs1.length : Int) := by omega
      obtain ⟨YT, YO, YP, f, ⟨hyT, hyO, hyP⟩, hsp, him⟩ := retrees T0 O0 P0 xs1 a2
      have HSP : Hid _ := hsp
      have HIM : Hid _ := him
      clear hsp him
      go_enter Try.func5, Try.ntmps5
      go_upto_region 8 with (first
        | (go_at_call 9; refine (szLend_any _ _ _ _ _ _ _ _ _ _ hlT hlO hlP).mono ?_; rintro e v1 ⟨rfl, hb1⟩; rw [hz]; have C : Hid (Cells v1 [(w.heap.size, 0, .slice aT0 T0.length cT0), (w.heap.size, 1, .slice aO0 O0.length cO0), (w.heap.size, 2, .slice aP0 P0.length cP0)]) := C0.out.next hb1; have hbw := below_step (w := w) (by go_grown) hb1; have ⟨⟨kz0, k0⟩, ⟨kz1, k1⟩, ⟨kz2, k2⟩, _⟩ := C.out; have zw := hbw.size)
        | (go_at_call 18; refine (szClassS_gen _ _ _ _ _ hlS (by omega) (by omega)).mono ?_; rintro e v1' ⟨rfl, h1⟩; have h1 := h1.symm; subst h1; rw [if_pos hsC']))
      clear C0
      go_upto_region 9 with (first
        | (go_at_call 11; refine (toLend_any cT0 cO0 cP0 (qT0.here (by go_grown)) (qO0.here (by go_grown)) (qP0.here (by go_grown)) hsT hsO hsP).mono ?_; rintro e vF ⟨gT, gO, gP, rfl, lvF, hbF⟩; have hbw := below_step (w := w) (by go_grown) hbF; have C : Hid (Cells vF [(w.heap.size, 0, .slice aT0 T0.length cT0), (w.heap.size, 1, .slice aO0 O0.length cO0), (w.heap.size, 2, .slice aP0 P0.length cP0)]) := C.out.next (below_step (by go_grown) hbF); have ⟨⟨kz0, k0⟩, ⟨kz1, k1⟩, ⟨kz2, k2⟩, _⟩ := C.out; have zw := hbw.size; have zF := hbF.size)
        | (go_at_call 20; refine (toClassS_any cap1 (hs1.here (by go_grown)) hsC).mono ?_; rintro e vQ ⟨gq, rfl, hgq0, hgq1, fgq, hbS⟩; have hbw := below_step (w := w) (by go_grown) hbS; have C : Hid (Cells vQ [(w.heap.size, 0, .slice aT0 T0.length cT0), (w.heap.size, 1, .slice aO0 O0.length cO0), (w.heap.size, 2, .slice aP0 P0.length cP0)]) := C.out.next (below_step (by go_grown) hbS); have ⟨⟨kz0, k0⟩, ⟨kz1, k1⟩, ⟨kz2, k2⟩, _⟩ := C.out; have lvF := lvF.next (below_step (by go_grown) hbS); have zw := hbw.size; have zS := hbS.size; (try simp at hgq0))
        | (go_at_call 19; refine (HSP.out _ _ _ _ _ T0.length O0.length P0.length xs1.length lvF.t.quad.2 lvF.o.quad.2 lvF.p.quad.2 (fgq.quad hgq1)).mono ?_; rintro e vP ⟨sa81, sn81, sc81, sa82, sn82, sc82, sa83, sn83, sc83, rfl, hlv, hbP⟩; have hbw := below_step (w := w) (by go_grown) hbP; have C : Hid (Cells vP [(w.heap.size, 0, .slice aT0 T0.length cT0), (w.heap.size, 1, .slice aO0 O0.length cO0), (w.heap.size, 2, .slice aP0 P0.length cP0)]) := C.out.next (below_step (by go_grown) hbP); have ⟨⟨kz0, k0⟩, ⟨kz1, k1⟩, ⟨kz2, k2⟩, _⟩ := C.out; have zw := hbw.size; have zP := hbP.size))
      obtain ⟨va, hv⟩ : ∃ v, v = vP.alloc (.cells #[.slice sa81 sn81 sc81, .slice sa82 sn82 sc82, .slice sa83 sn83 sc83] 31) := ⟨_, rfl⟩
      rw [← hv]
      have hbA : Below vP.heap.size vP va := by rw [hv]; exact new_below _ _
      have cA0 : va.cell? ⟨vP.heap.size, 0, none⟩ = some (.slice sa81 sn81 sc81) := by rw [hv]; go_simp
      have cA1 : va.cell? ⟨vP.heap.size, 1, none⟩ = some (.slice sa82 sn82 sc82) := by rw [hv]; go_simp
      have cA2 : va.cell? ⟨vP.heap.size, 2, none⟩ = some (.slice sa83 sn83 sc83) := by rw [hv]; go_simp
      have zA : vP.heap.size < va.heap.size := by rw [hv]; simp
      clear hv
      obtain ⟨b8, hb8⟩ : ∃ b, b = vP.heap.size := ⟨_, rfl⟩
      rw [← hb8] at cA0 cA1 cA2 ⊢
      have yb8 : b8 < va.heap.size := by omega
      have lb8 : vP.heap.size ≤ b8 ∧ b8 ≤ vP.heap.size := by omega
      clear hb8
      have hbw := below_step hbw hbA
      have C : Hid (Cells va [(w.heap.size, 0, .slice aT0 T0.length cT0), (w.heap.size, 1, .slice aO0 O0.length cO0), (w.heap.size, 2, .slice aP0 P0.length cP0), (b8, 0, .slice sa81 sn81 sc81), (b8, 1, .slice sa82 sn82 sc82), (b8, 2, .slice sa83 sn83 sc83)]) := by
        obtain ⟨c0, c1, c2, _⟩ := C.out.next hbA
        exact ⟨c0, c1, c2, ⟨yb8, cA0⟩, ⟨yb8, cA1⟩, ⟨yb8, cA2⟩, trivial⟩
      have ⟨⟨kz0, k0⟩, ⟨kz1, k1⟩, ⟨kz2, k2⟩, ⟨kz3, k3⟩, ⟨kz4, k4⟩, ⟨kz5, k5⟩, _⟩ := C.out
      have zw := hbw.size
      have lv8 := hlv.next hbA
      have u8 : ∀ g, inL (.slice sa81 sn81 sc81) (.slice sa82 sn82 sc82) (.slice sa83 sn83 sc83) g → v1.heap.size ≤ g ∧ g < b8 := fun g hg => (by have := hlv.lo hg; omega)
      clear hlv
      go_upto_region 10 with (first
        | (go_at_call 11; refine (toLend_any cT0 cO0 cP0 (qT0.here (by go_grown)) (qO0.here (by go_grown)) (qP0.here (by go_grown)) hsT hsO hsP).mono ?_; rintro e vX ⟨gT, gO, gP, rfl, lvF, hbF⟩; have hbw := below_step (w := w) (by go_grown) hbF; have C : Hid (Cells vX [(w.heap.size, 0, .slice aT0 T0.length cT0), (w.heap.size, 1, .slice aO0 O0.length cO0), (w.heap.size, 2, .slice aP0 P0.length cP0), (b8, 0, .slice sa81 sn81 sc81), (b8, 1, .slice sa82 sn82 sc82), (b8, 2, .slice sa83 sn83 sc83)]) := C.out.next (below_step (by go_grown) hbF); have ⟨⟨kz0, k0⟩, ⟨kz1, k1⟩, ⟨kz2, k2⟩, ⟨kz3, k3⟩, ⟨kz4, k4⟩, ⟨kz5, k5⟩, _⟩ := C.out; have lv8 := lv8.next (below_step (by go_grown) hbF); have zw := hbw.size; have zF := hbF.size))
      have lvx := lvF
      have uxb : ∀ g, inL (.slice (some ⟨gT, 0, none⟩) T0.length T0.length) (.slice (some ⟨gO, 0, none⟩) O0.length O0.length) (.slice (some ⟨gP, 0, none⟩) P0.length P0.length) g → va.heap.size ≤ g ∧ g < vX.heap.size := fun g hg => lvF.lo hg
      clear lvF
      obtain ⟨v2, hv⟩ : ∃ v, v = vX.alloc (.cells #[.slice (some ⟨gT, 0, none⟩) T0.length T0.length, .slice (some ⟨gO, 0, none⟩) O0.length O0.length, .slice (some ⟨gP, 0, none⟩) P0.length P0.length] 31) := ⟨_, rfl⟩
      rw [← hv]
      have hbA : Below vX.heap.size vX v2 := by rw [hv]; exact new_below _ _
      have cA0 : v2.cell? ⟨vX.heap.size, 0, none⟩ = some (.slice (some ⟨gT, 0, none⟩) T0.length T0.length) := by rw [hv]; go_simp
      have cA1 : v2.cell? ⟨vX.heap.size, 1, none⟩ = some (.slice (some ⟨gO, 0, none⟩) O0.length O0.length) := by rw [hv]; go_simp
      have cA2 : v2.cell? ⟨vX.heap.size, 2, none⟩ = some (.slice (some ⟨gP, 0, none⟩) P0.length P0.length) := by rw [hv]; go_simp
      have zA : vX.heap.size < v2.heap.size := by rw [hv]; simp
      clear hv
      obtain ⟨bx, hbx⟩ : ∃ b, b = vX.heap.size := ⟨_, rfl⟩
      rw [← hbx] at cA0 cA1 cA2 ⊢
      have ybx : bx < v2.heap.size := by omega
      have lbx : vX.heap.size ≤ bx ∧ bx ≤ vX.heap.size := by omega
      clear hbx
      have hbw := below_step hbw hbA
      have C : Hid (Cells v2 [(w.heap.size, 0, .slice aT0 T0.length cT0), (w.heap.size, 1, .slice aO0 O0.length cO0), (w.heap.size, 2, .slice aP0 P0.length cP0), (b8, 0, .slice sa81 sn81 sc81), (b8, 1, .slice sa82 sn82 sc82), (b8, 2, .slice sa83 sn83 sc83), (bx, 0, .slice (some ⟨gT, 0, none⟩) T0.length T0.length), (bx, 1, .slice (some ⟨gO, 0, none⟩) O0.length O0.length), (bx, 2, .slice (some ⟨gP, 0, none⟩) P0.length P0.length)]) := by
        obtain ⟨c0, c1, c2, c3, c4, c5, _⟩ := C.out.next hbA
        exact ⟨c0, c1, c2, c3, c4, c5, ⟨ybx, cA0⟩, ⟨ybx, cA1⟩, ⟨ybx, cA2⟩, trivial⟩
      have ⟨⟨kz0, k0⟩, ⟨kz1, k1⟩, ⟨kz2, k2⟩, ⟨kz3, k3⟩, ⟨kz4, k4⟩, ⟨kz5, k5⟩, ⟨kz6, k6⟩, ⟨kz7, k7⟩, ⟨kz8, k8⟩, _⟩ := C.out
      have lv8 := lv8.next hbA
      have lvx := lvx.next hbA
      have zw := hbw.size
      have ux : ∀ g, inL (.slice (some ⟨gT, 0, none⟩) T0.length T0.length) (.slice (some ⟨gO, 0, none⟩) O0.length O0.length) (.slice (some ⟨gP, 0, none⟩) P0.length P0.length) g → va.heap.size ≤ g ∧ g < bx := fun g hg => (by have := lvx.lo hg; have := lvx.lo hg; have := uxb g hg; omega)
      go_upto_region 11 with (first
        | (go_at_call 20; refine (toClassS_any cap1 (hs1.here (by go_grown)) hsC).mono ?_; rintro e v2s ⟨gs, rfl, hgs0, hgs1, fgs, hbS⟩; have hbw := below_step (w := w) (by go_grown) hbS; have C : Hid (Cells v2s [(w.heap.size, 0, .slice aT0 T0.length cT0), (w.heap.size, 1, .slice aO0 O0.length cO0), (w.heap.size, 2, .slice aP0 P0.length cP0), (b8, 0, .slice sa81 sn81 sc81), (b8, 1, .slice sa82 sn82 sc82), (b8, 2, .slice sa83 sn83 sc83), (bx, 0, .slice (some ⟨gT, 0, none⟩) T0.length T0.length), (bx, 1, .slice (some ⟨gO, 0, none⟩) O0.length O0.length), (bx, 2, .slice (some ⟨gP, 0, none⟩) P0.length P0.length)]) := C.out.next (below_step (by go_grown) hbS); have ⟨⟨kz0, k0⟩, ⟨kz1, k1⟩, ⟨kz2, k2⟩, ⟨kz3, k3⟩, ⟨kz4, k4⟩, ⟨kz5, k5⟩, ⟨kz6, k6⟩, ⟨kz7, k7⟩, ⟨kz8, k8⟩, _⟩ := C.out; have lv8 := lv8.next (below_step (by go_grown) hbS); have lvx := lvx.next (below_step (by go_grown) hbS); have zw := hbw.size; have zS := hbS.size; (try simp at hgs0)))
      have qx : QV v2s v2.heap.size (.slice (some ⟨gs, 0, none⟩) xs1.length xs1.length) xs1 := .inl ⟨gs, _, rfl, by omega, hgs1, fgs, Nat.le_refl _⟩
      have us : ∀ g, roomB (.slice (some ⟨gs, 0, none⟩) xs1.length xs1.length) = some g → v2.heap.size ≤ g ∧ g < v2s.heap.size := fun g hg => qx.own hg
      go_upto_region 12 with (first
        | (go_at_call 21; refine (HIM.out _ _ _ _ _ T0.length O0.length P0.length xs1.length (lvx.t.quad.2.here (by go_grown)) (lvx.o.quad.2.here (by go_grown)) (lvx.p.quad.2.here (by go_grown)) (qx.quad.2.here (by go_grown))).mono ?_; rintro e vI ⟨sa111, sn111, sc111, sa112, sn112, sc112, sa113, sn113, sc113, rfl, hlv, hbP⟩; have hbw := below_step (w := w) (by go_grown) hbP; have C : Hid (Cells vI [(w.heap.size, 0, .slice aT0 T0.length cT0), (w.heap.size, 1, .slice aO0 O0.length cO0), (w.heap.size, 2, .slice aP0 P0.length cP0), (b8, 0, .slice sa81 sn81 sc81), (b8, 1, .slice sa82 sn82 sc82), (b8, 2, .slice sa83 sn83 sc83), (bx, 0, .slice (some ⟨gT, 0, none⟩) T0.length T0.length), (bx, 1, .slice (some ⟨gO, 0, none⟩) O0.length O0.length), (bx, 2, .slice (some ⟨gP, 0, none⟩) P0.length P0.length)]) := C.out.next (below_step (by go_grown) hbP); have ⟨⟨kz0, k0⟩, ⟨kz1, k1⟩, ⟨kz2, k2⟩, ⟨kz3, k3⟩, ⟨kz4, k4⟩, ⟨kz5, k5⟩, ⟨kz6, k6⟩, ⟨kz7, k7⟩, ⟨kz8, k8⟩, _⟩ := C.out; have lv8 := lv8.next (below_step (by go_grown) hbP); have lvx := lvx.next (below_step (by go_grown) hbP); have qx := qx.next (below_step (by go_grown) hbP); have zw := hbw.size; have zP := hbP.size))
      obtain ⟨v3, hv⟩ : ∃ v, v = vI.alloc (.cells #[.slice sa111 sn111 sc111, .slice sa112 sn112 sc112, .slice sa113 sn113 sc113] 31) := ⟨_, rfl⟩
      rw [← hv]
      have hbA : Below vI.heap.size vI v3 := by rw [hv]; exact new_below _ _
      have cA0 : v3.cell? ⟨vI.heap.size, 0, none⟩ = some (.slice sa111 sn111 sc111) := by rw [hv]; go_simp
      have cA1 : v3.cell? ⟨vI.heap.size, 1, none⟩ = some (.slice sa112 sn112 sc112) := by rw [hv]; go_simp
      have cA2 : v3.cell? ⟨vI.heap.size, 2, none⟩ = some (.slice sa113 sn113 sc113) := by rw [hv]; go_simp
      have zA : vI.heap.size < v3.heap.size := by rw [hv]; simp
      clear hv
      obtain ⟨b11, hb11⟩ : ∃ b, b = vI.heap.size := ⟨_, rfl⟩
      rw [← hb11] at cA0 cA1 cA2 ⊢
      have yb11 : b11 < v3.heap.size := by omega
      have lb11 : vI.heap.size ≤ b11 ∧ b11 ≤ vI.heap.size := by omega
      clear hb11
      have hbw := below_step hbw hbA
      have C : Hid (Cells v3 [(w.heap.size, 0, .slice aT0 T0.length cT0), (w.heap.size, 1, .slice aO0 O0.length cO0), (w.heap.size, 2, .slice aP0 P0.length cP0), (b8, 0, .slice sa81 sn81 sc81), (b8, 1, .slice sa82 sn82 sc82), (b8, 2, .slice sa83 sn83 sc83), (bx, 0, .slice (some ⟨gT, 0, none⟩) T0.length T0.length), (bx, 1, .slice (some ⟨gO, 0, none⟩) O0.length O0.length), (bx, 2, .slice (some ⟨gP, 0, none⟩) P0.length P0.length), (b11, 0, .slice sa111 sn111 sc111), (b11, 1, .slice sa112 sn112 sc112), (b11, 2, .slice sa113 sn113 sc113)]) := by
        obtain ⟨c0, c1, c2, c3, c4, c5, c6, c7, c8, _⟩ := C.out.next hbA
        exact ⟨c0, c1, c2, c3, c4, c5, c6, c7, c8, ⟨yb11, cA0⟩, ⟨yb11, cA1⟩, ⟨yb11, cA2⟩, trivial⟩
      have ⟨⟨kz0, k0⟩, ⟨kz1, k1⟩, ⟨kz2, k2⟩, ⟨kz3, k3⟩, ⟨kz4, k4⟩, ⟨kz5, k5⟩, ⟨kz6, k6⟩, ⟨kz7, k7⟩, ⟨kz8, k8⟩, ⟨kz9, k9⟩, ⟨kz10, k10⟩, ⟨kz11, k11⟩, _⟩ := C.out
      have lv8 := lv8.next hbA
      have lvx := lvx.next hbA
      have qx := qx.next hbA
      have zw := hbw.size
      have lv11 := hlv.next hbA
      have u11 : ∀ g, inL (.slice sa111 sn111 sc111) (.slice sa112 sn112 sc112) (.slice sa113 sn113 sc113) g → v2s.heap.size ≤ g ∧ g < b11 := fun g hg => (by have := hlv.lo hg; omega)
      clear hlv
      go_upto_region 14 with (first
        | (go_at_call 13; refine (eqLV lv11 lv8 (by omega) (by omega) (by omega)).mono ?_; rintro e v4 ⟨rfl, hbE⟩; have hbw := below_step (w := w) (by go_grown) hbE; have C : Hid (Cells v4 [(w.heap.size, 0, .slice aT0 T0.length cT0), (w.heap.size, 1, .slice aO0 O0.length cO0), (w.heap.size, 2, .slice aP0 P0.length cP0), (b8, 0, .slice sa81 sn81 sc81), (b8, 1, .slice sa82 sn82 sc82), (b8, 2, .slice sa83 sn83 sc83), (bx, 0, .slice (some ⟨gT, 0, none⟩) T0.length T0.length), (bx, 1, .slice (some ⟨gO, 0, none⟩) O0.length O0.length), (bx, 2, .slice (some ⟨gP, 0, none⟩) P0.length P0.length), (b11, 0, .slice sa111 sn111 sc111), (b11, 1, .slice sa112 sn112 sc112), (b11, 2, .slice sa113 sn113 sc113)]) := C.out.next (below_step (by go_grown) hbE); have ⟨⟨kz0, k0⟩, ⟨kz1, k1⟩, ⟨kz2, k2⟩, ⟨kz3, k3⟩, ⟨kz4, k4⟩, ⟨kz5, k5⟩, ⟨kz6, k6⟩, ⟨kz7, k7⟩, ⟨kz8, k8⟩, ⟨kz9, k9⟩, ⟨kz10, k10⟩, ⟨kz11, k11⟩, _⟩ := C.out; have lv8 := lv8.next (below_step (by go_grown) hbE); have lvx := lvx.next (below_step (by go_grown) hbE); have qx := qx.next (below_step (by go_grown) hbE); have lv11 := lv11.next (below_step (by go_grown) hbE); have zw := hbw.size; have zE := hbE.size))
      go_cut [62] from 58 (fun s wd => s = .bool false ∧ Below v4.heap.size v4 wd)
      case first =>
          have lvx4 := lvx
          clear C
          set_option maxRecDepth 100000 in
          go_region_held3 (fun w' => w'.cell? ⟨w.heap.size, 0, none⟩ = some (.slice aT0 T0.length cT0) ∧ w'.cell? ⟨w.heap.size, 1, none⟩ = some (.slice aO0 O0.length cO0) ∧ w'.cell? ⟨w.heap.size, 2, none⟩ = some (.slice aP0 P0.length cP0) ∧ w'.cell? ⟨b8, 0, none⟩ = some (.slice sa81 sn81 sc81) ∧ w'.cell? ⟨b8, 1, none⟩ = some (.slice sa82 sn82 sc82) ∧ w'.cell? ⟨b8, 2, none⟩ = some (.slice sa83 sn83 sc83) ∧ w'.cell? ⟨bx, 0, none⟩ = some (.slice (some ⟨gT, 0, none⟩) T0.length T0.length) ∧ w'.cell? ⟨bx, 1, none⟩ = some (.slice (some ⟨gO, 0, none⟩) O0.length O0.length) ∧ w'.cell? ⟨bx, 2, none⟩ = some (.slice (some ⟨gP, 0, none⟩) P0.length P0.length) ∧ w'.cell? ⟨b11, 0, none⟩ = some (.slice sa111 sn111 sc111) ∧ w'.cell? ⟨b11, 1, none⟩ = some (.slice sa112 sn112 sc112) ∧ w'.cell? ⟨b11, 2, none⟩ = some (.slice sa113 sn113 sc113)) (first | (refine ⟨?_, ?_, ?_, ?_, ?_, ?_, ?_, ?_, ?_, ?_, ?_, ?_⟩ <;> first | assumption | (simp only [World.cell?_drew]; assumption)) | go_keep)
            (first
              | (go_at_call 11; refine (toLend_any cT0 cO0 cP0 (qT0.here (by go_grown)) (qO0.here (by go_grown)) (qP0.here (by go_grown)) hsT hsO hsP).mono ?_; rintro e vF ⟨hT, hO, hP, rfl, lvF, hbF⟩; have kc := below_cells hbF; have kf := below_frozens hbF; have hr := below_step (w := v4) (by go_grown) hbF; have hbw := below_step (w := w) (by go_grown) hbF; have zr := hr.size; have zw := hbw.size; have j0 := (below_cells hr _ _ kz0).trans k0; have j1 := (below_cells hr _ _ kz1).trans k1; have j2 := (below_cells hr _ _ kz2).trans k2; have j3 := (below_cells hr _ _ kz3).trans k3; have j4 := (below_cells hr _ _ kz4).trans k4; have j5 := (below_cells hr _ _ kz5).trans k5; have j6 := (below_cells hr _ _ kz6).trans k6; have j7 := (below_cells hr _ _ kz7).trans k7; have j8 := (below_cells hr _ _ kz8).trans k8; have j9 := (below_cells hr _ _ kz9).trans k9; have j10 := (below_cells hr _ _ kz10).trans k10; have j11 := (below_cells hr _ _ kz11).trans k11)
              | (go_at_call 13; refine (eqLV (lvx4.next hr) lvF hsT hsO hsP).mono ?_; rintro e vE ⟨rfl, hbE⟩; have kc := below_cells hbE; have kf := below_frozens hbE; have hr := below_step (w := v4) (by go_grown) hbE; have hbw := below_step (w := w) (by go_grown) hbE; have zr := hr.size; have zw := hbw.size; have j0 := (below_cells hr _ _ kz0).trans k0; have j1 := (below_cells hr _ _ kz1).trans k1; have j2 := (below_cells hr _ _ kz2).trans k2; have j3 := (below_cells hr _ _ kz3).trans k3; have j4 := (below_cells hr _ _ kz4).trans k4; have j5 := (below_cells hr _ _ kz5).trans k5; have j6 := (below_cells hr _ _ kz6).trans k6; have j7 := (below_cells hr _ _ kz7).trans k7; have j8 := (below_cells hr _ _ kz8).trans k8; have j9 := (below_cells hr _ _ kz9).trans k9; have j10 := (below_cells hr _ _ kz10).trans k10; have j11 := (below_cells hr _ _ kz11).trans k11))
          all_goals (repeat go_step)
          all_goals go_meet
          all_goals exact ⟨rfl, hr⟩
      case rest =>
      obtain ⟨v5, hv5⟩ : ∃ v5, v5 = wc := ⟨_, rfl⟩
      subst hv5
      obtain ⟨rfl, hb5⟩ := hcut
      have hbw := below_step (w := w) (by go_grown) hb5; have C : Hid (Cells v5 [(w.heap.size, 0, .slice aT0 T0.length cT0), (w.heap.size, 1, .slice aO0 O0.length cO0), (w.heap.size, 2, .slice aP0 P0.length cP0), (b8, 0, .slice sa81 sn81 sc81), (b8, 1, .slice sa82 sn82 sc82), (b8, 2, .slice sa83 sn83 sc83), (bx, 0, .slice (some ⟨gT, 0, none⟩) T0.length T0.length), (bx, 1, .slice (some ⟨gO, 0, none⟩) O0.length O0.length), (bx, 2, .slice (some ⟨gP, 0, none⟩) P0.length P0.length), (b11, 0, .slice sa111 sn111 sc111), (b11, 1, .slice sa112 sn112 sc112), (b11, 2, .slice sa113 sn113 sc113)]) := C.out.next (below_step (by go_grown) hb5); have ⟨⟨kz0, k0⟩, ⟨kz1, k1⟩, ⟨kz2, k2⟩, ⟨kz3, k3⟩, ⟨kz4, k4⟩, ⟨kz5, k5⟩, ⟨kz6, k6⟩, ⟨kz7, k7⟩, ⟨kz8, k8⟩, ⟨kz9, k9⟩, ⟨kz10, k10⟩, ⟨kz11, k11⟩, _⟩ := C.out; have lv8 := lv8.next (below_step (by go_grown) hb5); have lvx := lvx.next (below_step (by go_grown) hb5); have qx := qx.next (below_step (by go_grown) hb5); have lv11 := lv11.next (below_step (by go_grown) hb5); have zw := hbw.size
      go_upto_region 18 with (first
        | (go_at_call 20; refine (toClassS_any cap1 (hs1.here (by go_grown)) hsC).mono ?_; rintro e vQ5 ⟨gq, rfl, hgq0, hgq1, fgq, hbS⟩; have hbw := below_step (w := w) (by go_grown) hbS; have C : Hid (Cells vQ5 [(w.heap.size, 0, .slice aT0 T0.length cT0), (w.heap.size, 1, .slice aO0 O0.length cO0), (w.heap.size, 2, .slice aP0 P0.length cP0), (b8, 0, .slice sa81 sn81 sc81), (b8, 1, .slice sa82 sn82 sc82), (b8, 2, .slice sa83 sn83 sc83), (bx, 0, .slice (some ⟨gT, 0, none⟩) T0.length T0.length), (bx, 1, .slice (some ⟨gO, 0, none⟩) O0.length O0.length), (bx, 2, .slice (some ⟨gP, 0, none⟩) P0.length P0.length), (b11, 0, .slice sa111 sn111 sc111), (b11, 1, .slice sa112 sn112 sc112), (b11, 2, .slice sa113 sn113 sc113)]) := C.out.next (below_step (by go_grown) hbS); have ⟨⟨kz0, k0⟩, ⟨kz1, k1⟩, ⟨kz2, k2⟩, ⟨kz3, k3⟩, ⟨kz4, k4⟩, ⟨kz5, k5⟩, ⟨kz6, k6⟩, ⟨kz7, k7⟩, ⟨kz8, k8⟩, ⟨kz9, k9⟩, ⟨kz10, k10⟩, ⟨kz11, k11⟩, _⟩ := C.out; have lv8 := lv8.next (below_step (by go_grown) hbS); have lvx := lvx.next (below_step (by go_grown) hbS); have qx := qx.next (below_step (by go_grown) hbS); have lv11 := lv11.next (below_step (by go_grown) hbS); have zw := hbw.size; have zS := hbS.size; (try simp at hgq0))
        | (go_at_call 22; refine (eqClassS_any _ _ qx.quad.2 (fgq.quad hgq1) (by omega)).mono ?_; rintro e v5s ⟨rfl, hbE⟩; rw [show decide (xs1 = xs1) = true from decide_eq_true rfl]; have hbw := below_step (w := w) (by go_grown) hbE; have C : Hid (Cells v5s [(w.heap.size, 0, .slice aT0 T0.length cT0), (w.heap.size, 1, .slice aO0 O0.length cO0), (w.heap.size, 2, .slice aP0 P0.length cP0), (b8, 0, .slice sa81 sn81 sc81), (b8, 1, .slice sa82 sn82 sc82), (b8, 2, .slice sa83 sn83 sc83), (bx, 0, .slice (some ⟨gT, 0, none⟩) T0.length T0.length), (bx, 1, .slice (some ⟨gO, 0, none⟩) O0.length O0.length), (bx, 2, .slice (some ⟨gP, 0, none⟩) P0.length P0.length), (b11, 0, .slice sa111 sn111 sc111), (b11, 1, .slice sa112 sn112 sc112), (b11, 2, .slice sa113 sn113 sc113)]) := C.out.next (below_step (by go_grown) hbE); have ⟨⟨kz0, k0⟩, ⟨kz1, k1⟩, ⟨kz2, k2⟩, ⟨kz3, k3⟩, ⟨kz4, k4⟩, ⟨kz5, k5⟩, ⟨kz6, k6⟩, ⟨kz7, k7⟩, ⟨kz8, k8⟩, ⟨kz9, k9⟩, ⟨kz10, k10⟩, ⟨kz11, k11⟩, _⟩ := C.out; have lv8 := lv8.next (below_step (by go_grown) hbE); have lvx := lvx.next (below_step (by go_grown) hbE); have qx := qx.next (below_step (by go_grown) hbE); have lv11 := lv11.next (below_step (by go_grown) hbE); have zw := hbw.size; have zE := hbE.size))
      have C : Hid (Cells v5s [(w.heap.size, 0, .slice aT0 T0.length cT0), (w.heap.size, 1, .slice aO0 O0.length cO0), (w.heap.size, 2, .slice aP0 P0.length cP0), (b8, 0, .slice sa81 sn81 sc81), (b8, 1, .slice sa82 sn82 sc82), (b8, 2, .slice sa83 sn83 sc83), (b11, 0, .slice sa111 sn111 sc111), (b11, 1, .slice sa112 sn112 sc112), (b11, 2, .slice sa113 sn113 sc113)]) := by
        obtain ⟨c0, c1, c2, c3, c4, c5, c6, c7, c8, c9, c10, c11, _⟩ := C.out
        exact ⟨c0, c1, c2, c3, c4, c5, c9, c10, c11, trivial⟩
      have hkb : decide (1 + 4 * (T0.length : Int) + 4 * (O0.length : Int) + 4 * (P0.length : Int) + 4 * (xs1.length : Int) < 0) = false := decide_eq_false (by omega)
      have hkc : decide (1 + 4 * (YT.length : Int) + 4 * (YO.length : Int) + 4 * (YP.length : Int) < 0) = false := decide_eq_false (by omega)
      go_upto_region 31 with (first
        | (go_at_call 16; have g1 := mk1; refine (markLend_any 1 lv11 (by omega) (by omega) (by omega) (by omega) (by omega)).mono ?_; rintro e v7 ⟨rfl, lm11, ho7⟩; have hbw := hbw.trans (ho7.below (fun g hg => (by have := u11 g hg; omega)) (by omega)); have C : Hid (Cells v7 [(w.heap.size, 0, .slice aT0 T0.length cT0), (w.heap.size, 1, .slice aO0 O0.length cO0), (w.heap.size, 2, .slice aP0 P0.length cP0), (b8, 0, .slice sa81 sn81 sc81), (b8, 1, .slice sa82 sn82 sc82), (b8, 2, .slice sa83 sn83 sc83), (b11, 0, .slice sa111 sn111 sc111), (b11, 1, .slice sa112 sn112 sc112), (b11, 2, .slice sa113 sn113 sc113)]) := Cells.onlyP ho7 (by intro c hc e; simp only [List.mem_cons, List.not_mem_nil, or_false] at hc; have u := u11 _ e; rcases hc with rfl | rfl | rfl | rfl | rfl | rfl | rfl | rfl | rfl <;> (simp only at u; omega)) C.out; have ⟨⟨kz0, k0⟩, ⟨kz1, k1⟩, ⟨kz2, k2⟩, ⟨kz3, k3⟩, ⟨kz4, k4⟩, ⟨kz5, k5⟩, ⟨kz6, k6⟩, ⟨kz7, k7⟩, ⟨kz8, k8⟩, _⟩ := C.out; have lv8 := lv8.onlyP ho7 (fun g hg e => (by have := u8 g (.inl hg); have := u11 g e; omega)) (fun g hg e => (by have := u8 g (.inr (.inl hg)); have := u11 g e; omega)) (fun g hg e => (by have := u8 g (.inr (.inr hg)); have := u11 g e; omega)); have mk2 := ho7; have zw := hbw.size)
        | (go_at_call 16; refine (markLend_any 1 lvx hsT hsO hsP (by omega) (by omega)).mono ?_; rintro e v6 ⟨rfl, lmx, ho6⟩; have hbw := hbw.trans (ho6.below (fun g hg => (by have := ux g hg; omega)) (by omega)); have C : Hid (Cells v6 [(w.heap.size, 0, .slice aT0 T0.length cT0), (w.heap.size, 1, .slice aO0 O0.length cO0), (w.heap.size, 2, .slice aP0 P0.length cP0), (b8, 0, .slice sa81 sn81 sc81), (b8, 1, .slice sa82 sn82 sc82), (b8, 2, .slice sa83 sn83 sc83), (b11, 0, .slice sa111 sn111 sc111), (b11, 1, .slice sa112 sn112 sc112), (b11, 2, .slice sa113 sn113 sc113)]) := Cells.onlyP ho6 (by intro c hc e; simp only [List.mem_cons, List.not_mem_nil, or_false] at hc; have u := ux _ e; rcases hc with rfl | rfl | rfl | rfl | rfl | rfl | rfl | rfl | rfl <;> (simp only at u; omega)) C.out; have ⟨⟨kz0, k0⟩, ⟨kz1, k1⟩, ⟨kz2, k2⟩, ⟨kz3, k3⟩, ⟨kz4, k4⟩, ⟨kz5, k5⟩, ⟨kz6, k6⟩, ⟨kz7, k7⟩, ⟨kz8, k8⟩, _⟩ := C.out; have lv8 := lv8.onlyP ho6 (fun g hg e => (by have := u8 g (.inl hg); have := ux g e; omega)) (fun g hg e => (by have := u8 g (.inr (.inl hg)); have := ux g e; omega)) (fun g hg e => (by have := u8 g (.inr (.inr hg)); have := ux g e; omega)); have lv11 := lv11.onlyP ho6 (fun g hg e => (by have := u11 g (.inl hg); have := ux g e; omega)) (fun g hg e => (by have := u11 g (.inr (.inl hg)); have := ux g e; omega)) (fun g hg e => (by have := u11 g (.inr (.inr hg)); have := ux g e; omega)); have qx := qx.onlyP ho6 (fun g hg e => (by have := us g hg; have := ux g e; omega)); have mk0 := ho6; have zw := hbw.size)
        | (go_at_call 23; have g0 := mk0; refine (markClassS_v (1 + 4 * (T0.length : Int) + 4 * (O0.length : Int) + 4 * (P0.length : Int)) qx hsC (by omega) (by omega)).mono ?_; rintro e v6s ⟨rfl, qmx, ho6s⟩; have ho6p := OnlyP.of ho6s; have hbw := hbw.trans (ho6p.below (fun g hg => (by have := us g hg; omega)) (by omega)); have C : Hid (Cells v6s [(w.heap.size, 0, .slice aT0 T0.length cT0), (w.heap.size, 1, .slice aO0 O0.length cO0), (w.heap.size, 2, .slice aP0 P0.length cP0), (b8, 0, .slice sa81 sn81 sc81), (b8, 1, .slice sa82 sn82 sc82), (b8, 2, .slice sa83 sn83 sc83), (b11, 0, .slice sa111 sn111 sc111), (b11, 1, .slice sa112 sn112 sc112), (b11, 2, .slice sa113 sn113 sc113)]) := Cells.onlyP ho6p (by intro c hc e; simp only [List.mem_cons, List.not_mem_nil, or_false] at hc; have u := us _ e; rcases hc with rfl | rfl | rfl | rfl | rfl | rfl | rfl | rfl | rfl <;> (simp only at u; omega)) C.out; have ⟨⟨kz0, k0⟩, ⟨kz1, k1⟩, ⟨kz2, k2⟩, ⟨kz3, k3⟩, ⟨kz4, k4⟩, ⟨kz5, k5⟩, ⟨kz6, k6⟩, ⟨kz7, k7⟩, ⟨kz8, k8⟩, _⟩ := C.out; have lv8 := lv8.onlyP ho6p (fun g hg e => (by have := u8 g (.inl hg); have := us g e; omega)) (fun g hg e => (by have := u8 g (.inr (.inl hg)); have := us g e; omega)) (fun g hg e => (by have := u8 g (.inr (.inr hg)); have := us g e; omega)); have lv11 := lv11.onlyP ho6p (fun g hg e => (by have := u11 g (.inl hg); have := us g e; omega)) (fun g hg e => (by have := u11 g (.inr (.inl hg)); have := us g e; omega)) (fun g hg e => (by have := u11 g (.inr (.inr hg)); have := us g e; omega)); have mk1 := ho6s; have zw := hbw.size)
        | (go_at_call 17; have g1 := mk2; refine (heldLend_any 1 lm11 (by omega) (by omega) (by omega) (by omega) (by omega)).mono ?_; rintro e v8 ⟨rfl, hb8⟩; have hbw := below_step (w := w) (by go_grown) hb8; have C : Hid (Cells v8 [(w.heap.size, 0, .slice aT0 T0.length cT0), (w.heap.size, 1, .slice aO0 O0.length cO0), (w.heap.size, 2, .slice aP0 P0.length cP0), (b8, 0, .slice sa81 sn81 sc81), (b8, 1, .slice sa82 sn82 sc82), (b8, 2, .slice sa83 sn83 sc83), (b11, 0, .slice sa111 sn111 sc111), (b11, 1, .slice sa112 sn112 sc112), (b11, 2, .slice sa113 sn113 sc113)]) := C.out.next (below_step (by go_grown) hb8); have ⟨⟨kz0, k0⟩, ⟨kz1, k1⟩, ⟨kz2, k2⟩, ⟨kz3, k3⟩, ⟨kz4, k4⟩, ⟨kz5, k5⟩, ⟨kz6, k6⟩, ⟨kz7, k7⟩, ⟨kz8, k8⟩, _⟩ := C.out; have lv8 := lv8.next (below_step (by go_grown) hb8); have lm11 := lm11.next (below_step (by go_grown) hb8); have zw := hbw.size)
        | (go_at_call 13; refine (eqLV lv11 lv8 (by omega) (by omega) (by omega)).mono ?_; rintro e v6e ⟨rfl, hbE⟩; have hbw := below_step (w := w) (by go_grown) hbE; have C : Hid (Cells v6e [(w.heap.size, 0, .slice aT0 T0.length cT0), (w.heap.size, 1, .slice aO0 O0.length cO0), (w.heap.size, 2, .slice aP0 P0.length cP0), (b8, 0, .slice sa81 sn81 sc81), (b8, 1, .slice sa82 sn82 sc82), (b8, 2, .slice sa83 sn83 sc83), (b11, 0, .slice sa111 sn111 sc111), (b11, 1, .slice sa112 sn112 sc112), (b11, 2, .slice sa113 sn113 sc113)]) := C.out.next (below_step (by go_grown) hbE); have ⟨⟨kz0, k0⟩, ⟨kz1, k1⟩, ⟨kz2, k2⟩, ⟨kz3, k3⟩, ⟨kz4, k4⟩, ⟨kz5, k5⟩, ⟨kz6, k6⟩, ⟨kz7, k7⟩, ⟨kz8, k8⟩, _⟩ := C.out; have lv8 := lv8.next (below_step (by go_grown) hbE); have lv11 := lv11.next (below_step (by go_grown) hbE); have zw := hbw.size; have zE := hbE.size))
      go_upto_region 32 with (first
        | (go_at_call 11; refine (toLend_any cT0 cO0 cP0 (qT0.here (by go_grown)) (qO0.here (by go_grown)) (qP0.here (by go_grown)) hsT hsO hsP).mono ?_; rintro e vG ⟨gT, gO, gP, rfl, lvF, hbF⟩; have hbw := below_step (w := w) (by go_grown) hbF; have C : Hid (Cells vG [(w.heap.size, 0, .slice aT0 T0.length cT0), (w.heap.size, 1, .slice aO0 O0.length cO0), (w.heap.size, 2, .slice aP0 P0.length cP0), (b8, 0, .slice sa81 sn81 sc81), (b8, 1, .slice sa82 sn82 sc82), (b8, 2, .slice sa83 sn83 sc83), (b11, 0, .slice sa111 sn111 sc111), (b11, 1, .slice sa112 sn112 sc112), (b11, 2, .slice sa113 sn113 sc113)]) := C.out.next (below_step (by go_grown) hbF); have ⟨⟨kz0, k0⟩, ⟨kz1, k1⟩, ⟨kz2, k2⟩, ⟨kz3, k3⟩, ⟨kz4, k4⟩, ⟨kz5, k5⟩, ⟨kz6, k6⟩, ⟨kz7, k7⟩, ⟨kz8, k8⟩, _⟩ := C.out; have lv8 := lv8.next (below_step (by go_grown) hbF); have lm11 := lm11.next (below_step (by go_grown) hbF); have zw := hbw.size; have zF := hbF.size)
        | (go_at_call 20; refine (toClassS_any cap1 (hs1.here (by go_grown)) hsC).mono ?_; rintro e vR ⟨gq, rfl, hgq0, hgq1, fgq, hbS⟩; have hbw := below_step (w := w) (by go_grown) hbS; have C : Hid (Cells vR [(w.heap.size, 0, .slice aT0 T0.length cT0), (w.heap.size, 1, .slice aO0 O0.length cO0), (w.heap.size, 2, .slice aP0 P0.length cP0), (b8, 0, .slice sa81 sn81 sc81), (b8, 1, .slice sa82 sn82 sc82), (b8, 2, .slice sa83 sn83 sc83), (b11, 0, .slice sa111 sn111 sc111), (b11, 1, .slice sa112 sn112 sc112), (b11, 2, .slice sa113 sn113 sc113)]) := C.out.next (below_step (by go_grown) hbS); have ⟨⟨kz0, k0⟩, ⟨kz1, k1⟩, ⟨kz2, k2⟩, ⟨kz3, k3⟩, ⟨kz4, k4⟩, ⟨kz5, k5⟩, ⟨kz6, k6⟩, ⟨kz7, k7⟩, ⟨kz8, k8⟩, _⟩ := C.out; have lv8 := lv8.next (below_step (by go_grown) hbS); have lm11 := lm11.next (below_step (by go_grown) hbS); have lvF := lvF.next (below_step (by go_grown) hbS); have zw := hbw.size; have zS := hbS.size; (try simp at hgq0))
        | (go_at_call 21; refine (HIM.out _ _ _ _ _ T0.length O0.length P0.length xs1.length lvF.t.quad.2 lvF.o.quad.2 lvF.p.quad.2 (fgq.quad hgq1)).mono ?_; rintro e vH ⟨sa161, sn161, sc161, sa162, sn162, sc162, sa163, sn163, sc163, rfl, hlv, hbP⟩; have hbw := below_step (w := w) (by go_grown) hbP; have C : Hid (Cells vH [(w.heap.size, 0, .slice aT0 T0.length cT0), (w.heap.size, 1, .slice aO0 O0.length cO0), (w.heap.size, 2, .slice aP0 P0.length cP0), (b8, 0, .slice sa81 sn81 sc81), (b8, 1, .slice sa82 sn82 sc82), (b8, 2, .slice sa83 sn83 sc83), (b11, 0, .slice sa111 sn111 sc111), (b11, 1, .slice sa112 sn112 sc112), (b11, 2, .slice sa113 sn113 sc113)]) := C.out.next (below_step (by go_grown) hbP); have ⟨⟨kz0, k0⟩, ⟨kz1, k1⟩, ⟨kz2, k2⟩, ⟨kz3, k3⟩, ⟨kz4, k4⟩, ⟨kz5, k5⟩, ⟨kz6, k6⟩, ⟨kz7, k7⟩, ⟨kz8, k8⟩, _⟩ := C.out; have lv8 := lv8.next (below_step (by go_grown) hbP); have lm11 := lm11.next (below_step (by go_grown) hbP); have zw := hbw.size; have zP := hbP.size))
      obtain ⟨v9, hv⟩ : ∃ v, v = vH.alloc (.cells #[.slice sa161 sn161 sc161, .slice sa162 sn162 sc162, .slice sa163 sn163 sc163] 31) := ⟨_, rfl⟩
      rw [← hv]
      have hbA : Below vH.heap.size vH v9 := by rw [hv]; exact new_below _ _
      have cA0 : v9.cell? ⟨vH.heap.size, 0, none⟩ = some (.slice sa161 sn161 sc161) := by rw [hv]; go_simp
      have cA1 : v9.cell? ⟨vH.heap.size, 1, none⟩ = some (.slice sa162 sn162 sc162) := by rw [hv]; go_simp
      have cA2 : v9.cell? ⟨vH.heap.size, 2, none⟩ = some (.slice sa163 sn163 sc163) := by rw [hv]; go_simp
      have zA : vH.heap.size < v9.heap.size := by rw [hv]; simp
      clear hv
      obtain ⟨b16, hb16⟩ : ∃ b, b = vH.heap.size := ⟨_, rfl⟩
      rw [← hb16] at cA0 cA1 cA2 ⊢
      have yb16 : b16 < v9.heap.size := by omega
      have lb16 : vH.heap.size ≤ b16 ∧ b16 ≤ vH.heap.size := by omega
      clear hb16
      have hbw := below_step hbw hbA
      have C : Hid (Cells v9 [(w.heap.size, 0, .slice aT0 T0.length cT0), (w.heap.size, 1, .slice aO0 O0.length cO0), (w.heap.size, 2, .slice aP0 P0.length cP0), (b8, 0, .slice sa81 sn81 sc81), (b8, 1, .slice sa82 sn82 sc82), (b8, 2, .slice sa83 sn83 sc83), (b11, 0, .slice sa111 sn111 sc111), (b11, 1, .slice sa112 sn112 sc112), (b11, 2, .slice sa113 sn113 sc113), (b16, 0, .slice sa161 sn161 sc161), (b16, 1, .slice sa162 sn162 sc162), (b16, 2, .slice sa163 sn163 sc163)]) := by
        obtain ⟨c0, c1, c2, c3, c4, c5, c6, c7, c8, _⟩ := C.out.next hbA
        exact ⟨c0, c1, c2, c3, c4, c5, c6, c7, c8, ⟨yb16, cA0⟩, ⟨yb16, cA1⟩, ⟨yb16, cA2⟩, trivial⟩
      have ⟨⟨kz0, k0⟩, ⟨kz1, k1⟩, ⟨kz2, k2⟩, ⟨kz3, k3⟩, ⟨kz4, k4⟩, ⟨kz5, k5⟩, ⟨kz6, k6⟩, ⟨kz7, k7⟩, ⟨kz8, k8⟩, ⟨kz9, k9⟩, ⟨kz10, k10⟩, ⟨kz11, k11⟩, _⟩ := C.out
      have lv8 := lv8.next hbA
      have lm11 := lm11.next hbA
      have zw := hbw.size
      have lv16 := hlv.next hbA
      go_wp2_with (first
        | (go_at_call 17; refine (heldLend_any 1 lm11 (by omega) (by omega) (by omega) (by omega) (by omega)).mono ?_; rintro e v11 ⟨rfl, hb11⟩; have hbw := below_step (w := w) (by go_grown) hb11; have C : Hid (Cells v11 [(w.heap.size, 0, .slice aT0 T0.length cT0), (w.heap.size, 1, .slice aO0 O0.length cO0), (w.heap.size, 2, .slice aP0 P0.length cP0), (b8, 0, .slice sa81 sn81 sc81), (b8, 1, .slice sa82 sn82 sc82), (b8, 2, .slice sa83 sn83 sc83), (b11, 0, .slice sa111 sn111 sc111), (b11, 1, .slice sa112 sn112 sc112), (b11, 2, .slice sa113 sn113 sc113), (b16, 0, .slice sa161 sn161 sc161), (b16, 1, .slice sa162 sn162 sc162), (b16, 2, .slice sa163 sn163 sc163)]) := C.out.next (below_step (by go_grown) hb11); have ⟨⟨kz0, k0⟩, ⟨kz1, k1⟩, ⟨kz2, k2⟩, ⟨kz3, k3⟩, ⟨kz4, k4⟩, ⟨kz5, k5⟩, ⟨kz6, k6⟩, ⟨kz7, k7⟩, ⟨kz8, k8⟩, ⟨kz9, k9⟩, ⟨kz10, k10⟩, ⟨kz11, k11⟩, _⟩ := C.out; have lv8 := lv8.next (below_step (by go_grown) hb11); have zw := hbw.size)
        | (go_at_call 13; refine (eqLV lv16 lv8 (by omega) (by omega) (by omega)).mono ?_; rintro e v10 ⟨rfl, hbE⟩; have hbw := below_step (w := w) (by go_grown) hbE; have C : Hid (Cells v10 [(w.heap.size, 0, .slice aT0 T0.length cT0), (w.heap.size, 1, .slice aO0 O0.length cO0), (w.heap.size, 2, .slice aP0 P0.length cP0), (b8, 0, .slice sa81 sn81 sc81), (b8, 1, .slice sa82 sn82 sc82), (b8, 2, .slice sa83 sn83 sc83), (b11, 0, .slice sa111 sn111 sc111), (b11, 1, .slice sa112 sn112 sc112), (b11, 2, .slice sa113 sn113 sc113), (b16, 0, .slice sa161 sn161 sc161), (b16, 1, .slice sa162 sn162 sc162), (b16, 2, .slice sa163 sn163 sc163)]) := C.out.next (below_step (by go_grown) hbE); have ⟨⟨kz0, k0⟩, ⟨kz1, k1⟩, ⟨kz2, k2⟩, ⟨kz3, k3⟩, ⟨kz4, k4⟩, ⟨kz5, k5⟩, ⟨kz6, k6⟩, ⟨kz7, k7⟩, ⟨kz8, k8⟩, ⟨kz9, k9⟩, ⟨kz10, k10⟩, ⟨kz11, k11⟩, _⟩ := C.out; have lv8 := lv8.next (below_step (by go_grown) hbE); have lm11 := lm11.next (below_step (by go_grown) hbE); have lv16 := lv16.next (below_step (by go_grown) hbE); have zw := hbw.size; have zE := hbE.size))
      go_ret
      exact ⟨rfl, hbw⟩
    · have HC' : Hid (1048576 - (T0.length : Int) - (O0.length : Int) - (P0.length : Int) < (xs1.length : Int)) := Int.not_le.1 hsC'
      clear hsC' C0
      go_enter Try.func5, Try.ntmps5
      go_wp2_with (first
        | (go_at_call 9; refine (szLend_any _ _ _ _ _ _ _ _ _ _ hlT hlO hlP).mono ?_; rintro e v1 ⟨rfl, hb1⟩; rw [hz]; have hbw := below_step (w := w) (by go_grown) hb1)
        | (go_at_call 18; refine (szClassS_gen _ _ _ _ _ hlS (by omega) (by omega)).mono ?_; rintro e v1' ⟨rfl, h1⟩; have h1 := h1.symm; subst h1; rw [if_neg (Int.not_le.2 HC'.out)]))
      go_ret
      exact ⟨rfl, hbw⟩
  · have hz : (if T0.length + O0.length + P0.length ≤ 1048576 then 1048576 - (T0.length : Int) - (O0.length : Int) - (P0.length : Int) else -1) = -1 := if_neg hs
    go_enter Try.func5, Try.ntmps5
    go_wp2_with (first
      | (go_at_call 9; refine (szLend_any _ _ _ _ _ _ _ _ _ _ hlT hlO hlP).mono ?_; rintro e v1 ⟨rfl, hb1⟩; rw [hz]; have hbw := below_step (w := w) (by go_grown) hb1)
      | go_in)
    go_ret
    exact ⟨rfl, hbw⟩

/-! ### THE ROW's STEP -/
set_option maxRecDepth 100000 in
theorem lifted (os : Os) (started : os.Started) (H : Type) (enc : TypeId × Value → H) :
    ReturnsInHanded {} Try.checked os 5 .any (Rows.fnExactRetreeSpec.pre6 enc Try.prog Try.f5 Rows.fnExactRetreeRow.domain false) (Rows.fnExactRetreeSpec.post enc Try.prog Try.f5 false true false false) := by
  refine returnsInHanded_of_change (C := Try.checked) own started (by kernel_rfl) Try.func5
    (ChangeSpec.witness6 (enc := enc) (C := Try.checked) false ⟨#[], #[.agg #[.slice none 0 0, .slice none 0 0, .slice none 0 0], .slice none 0 0, .int .i64 0], []⟩ 8 (by kernel_rfl) (by kernel_rfl) (by kernel_rfl) (by kernel_rfl)) ?_
  intro W base args ds gs before hval0 hW hcnd _
  have hval : ∀ (j : Nat) t v, Try.f5.params[j]? = some t → args[j]? = some v → Value.okWide Try.prog W .any base t v := hval0
  have hW' := hW
  have hlt := hW'.lt
  obtain ⟨p, q, hA0, hV, rfl, hfz, hnd⟩ := hW
  have hA : DataW.TrodAll enc Try.prog W 0 (fun _ => true) true Try.f5.params.toList args.toList ds p := hA0
  rw [Try.params5] at hA hval
  have hR := hA
  obtain ⟨v0, vs0, d0, ds0, p0, q0, hargs, rfl, rfl, h0, r0⟩ := trodAll_cons hA
  obtain ⟨v1, vs1, d1, ds1, p1, q1, rfl, rfl, rfl, h1, r1⟩ := trodAll_cons r0
  obtain ⟨v2, vs2, d2, ds2, p2, q2, rfl, rfl, rfl, h2, r2⟩ := trodAll_cons r1
  obtain ⟨rfl, rfl, rfl⟩ := trodAll_nil r2
  obtain rfl : args = #[v0, v1, v2] := by cases args; simp_all
  obtain ⟨rfl, rfl⟩ := trodVars_none hV
  obtain ⟨aT0, cT0, T0, aO0, cO0, O0, aP0, cP0, P0, rfl, qT0, qO0, qP0, mT0, mO0, mP0⟩ := open_lend (hval 0 25 v0 rfl rfl) h0
  obtain ⟨a1, cap1, xs1, rfl, hs1, hi1, hn1, hc1, hm1⟩ := open_classS (hval 1 22 v1 rfl rfl) h1
  obtain ⟨a2, rfl, rfl, rfl, w2⟩ := open_int Try.underlying2 (hval 2 2 v2 rfl rfl) h2
  clear hA0 hval0
  refine (walk W aT0 cT0 T0 aO0 cO0 O0 aP0 cP0 P0 qT0 qO0 qP0 mT0 mO0 mP0 a1 cap1 xs1 hs1 hi1 hn1 hc1 hm1 a2 w2).mono fun e W' ⟨he, hg⟩ => ?_
  subst he
  exact ⟨_, rfl, _, _, _, [], _, [], hW', (trodAll_cons_mk (shut_bool Try.underlying4 _) trodAll_mk0), trodAll_after table_ok hg (by decide) hR (fun x hx => hlt x (List.mem_append.2 (.inl hx))), rfl, hg.frame _, fun h => by cases h⟩

theorem over : Rows.fnExactRetreeRow.holds Try.pinned (OpenSpec.ofChange Rows.fnExactRetreeSpec) :=
  OpenClaim.holds_of_wide 5 Try.f5 rfl rfl rfl rfl rfl rfl rfl ⟨rfl, rfl, rfl, rfl, rfl⟩ rfl rfl rfl rfl rfl (by kernel_rfl) Try.func5 (by kernel_rfl)
    (of_decide_eq_true (by kernel_rfl)) (by unfold Func.isWrapper; first | (rw [if_pos (by decide +kernel)]; kernel_rfl) | (rw [if_neg (by decide +kernel)]; exact ⟨rfl, rfl⟩))
    (fun os started H enc _ => lifted os started H enc)

theorem proved : Rows.FnExactRetreeSaid := over
#print axioms proved
end Go.Proofs.Ytcepopboldnicam.fnExactRetree
namespace Go.Proofs.Ytcepopboldnicam
theorem fnExactRetree_holds : Rows.FnExactRetreeSaid := fnExactRetree.proved
#print axioms fnExactRetree_holds
end Go.Proofs.Ytcepopboldnicam
