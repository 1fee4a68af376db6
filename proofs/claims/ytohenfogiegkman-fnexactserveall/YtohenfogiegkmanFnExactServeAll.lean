/- Proved: at every Turns and every number impl.ServeAll answers as spec.ServeAll does, writes nothing into its argument, and its answer owns its memory (the law FnExactServeAll returns true and its arguments read as before); no condition. -/
import Derived.Test.YtohenfogiegkmanRows
import Derived.WalkKit
import Derived.ProofKit
import Derived.OpenShut
import Derived.ShutString
import Derived.Below
import Derived.Laws.Cover2
import Derived.Test.YtohenfogiegkmanAllBoth
import Derived.Test.YtohenfogiegkmanFlwOpen
import Derived.Test.YtohenfogiegkmanFlwTo
import Derived.Test.YtohenfogiegkmanFlwEq
import Derived.Test.YtohenfogiegkmanFlwMarkT
import Derived.Test.YtohenfogiegkmanGrpA
import Derived.Deep.RegionHeld3
import Derived.Deep.DeepCutAuto
namespace Go.Proofs.Ytohenfogiegkman.fnExactServeAll
open Go.ChangeShapes Go.WideShapes Go.ChangeAt Go.RowKit
set_option linter.unusedVariables false

theorem own : ownKnob Try.prog.godebug = none := by kernel_rfl

set_option linter.unusedSimpArgs false
theorem sum_of {fs : List F8} {f : F8} (h : f ∈ fs) : f.2.2.length ≤ sumL fs fs.length := by
  obtain ⟨k, hk, rfl⟩ := List.mem_iff_getElem.1 h
  have h1 := sumL_next hk
  have h2 := sumL_mono fs (show k + 1 ≤ fs.length by omega)
  omega
theorem eq_all {xs : List F8} {t : Int} {f : Bool} : decide (xs = xs ∧ t = t ∧ f = f) = true := decide_eq_true ⟨rfl, rfl, rfl⟩
theorem eq_ints {xs : List Int} : decide (xs = xs) = true := decide_eq_true rfl

/-! ### STEP 1: the walk -/
set_option maxHeartbeats 16000000 in
theorem walk (w : World) (a0 : Option Addr) (cap0 : Nat) (fs0 : List F8) (at0 : Int) (fr0 : Bool) (hf0 : Fls w.heap.size w a0 fs0) (hm0 : fs0.length ≤ maxLen) (hl0 : ∀ f ∈ fs0, f.2.2.length ≤ maxLen) (a1 : Int) (w1 : (Lit.int .i64 a1).wf = true) :
    Calls Try.prog 4 #[.agg #[.slice a0 fs0.length cap0, .int .i64 at0, .bool fr0], .int .i64 a1] w fun e w' => e = .returned (.bool true) ∧ Below w.heap.size w w' := by
  by_cases hs : fs0.length + sumL fs0 fs0.length ≤ 1048576
  · have hz : (if fs0.length + sumL fs0 fs0.length ≤ 1048576 then 1048576 - (fs0.length : Int) - (sumL fs0 fs0.length : Int) else -1) = 1048576 - (fs0.length : Int) - (sumL fs0 fs0.length : Int) := if_pos hs
    have hz' : (0 : Int) ≤ 1048576 - (fs0.length : Int) - (sumL fs0 fs0.length : Int) := by omega
    have hsT : fs0.length ≤ 1048576 := by omega
    have hsS : ∀ f ∈ fs0, f.2.2.length ≤ 1048576 := fun f hf => by have := sum_of hf; omega
    have hb0 : ∀ f ∈ fs0, f.2.2.length ≤ 4611686018427387904 := fun f hf => by have := hsS f hf; omega
    have hn0 : fs0.length ≤ 4611686018427387904 := by omega
    obtain ⟨R, hR⟩ : ∃ R : Int, 1048576 - (fs0.length : Int) - (sumL fs0 fs0.length : Int) = R := ⟨_, rfl⟩
    have HZ : Hid ((if fs0.length + sumL fs0 fs0.length ≤ 1048576 then 1048576 - (fs0.length : Int) - (sumL fs0 fs0.length : Int) else -1) = R) := hz.trans hR
    rw [hR] at hz'
    have HS : Hid (fs0.length + sumL fs0 fs0.length ≤ 1048576) := hs
    clear hz hR hs
    have C0 : Hid (Cells (w.alloc (.cells #[.slice a0 fs0.length cap0, .int .i64 at0, .bool fr0] 24)) [(w.heap.size, 0, .slice a0 fs0.length cap0), (w.heap.size, 1, .int .i64 at0), (w.heap.size, 2, .bool fr0)]) := ⟨⟨by simp, by go_simp⟩, ⟨by simp, by go_simp⟩, ⟨by simp, by go_simp⟩, trivial⟩
    obtain ⟨Y, ya, yf, S, hfw, hsl0, hsp, him⟩ := alls fs0 at0 fr0 a1
    have HFW : Hid (Few Y) := hfw
    have HSP : Hid _ := hsp
    have HIM : Hid _ := him
    have hSl : S.length ≤ 4611686018427387904 := by omega
    have hSm : S.length ≤ 1048576 := by omega
    have hSi : (S.length : Int) ≤ 30 := by omega
    clear hsp him hfw
    go_enter Try.func4, Try.ntmps4
    go_upto_region 5 with (first
      | (go_at_call 9; refine (szTurns_any cap0 at0 fr0 (hf0.here (newB _ _)) hm0 hl0).mono ?_; rintro e v1 ⟨rfl, hb1⟩; rw [HZ.out]; have C : Hid (Cells v1 [(w.heap.size, 0, .slice a0 fs0.length cap0), (w.heap.size, 1, .int .i64 at0), (w.heap.size, 2, .bool fr0)]) := C0.out.next hb1; have hbw := below_step (newB w _) hb1; have ⟨⟨kz0, k0⟩, ⟨kz1, k1⟩, ⟨kz2, k2⟩, _⟩ := C.out))
    clear C0
    go_upto_region 6 with (first
      | (go_at_call 11; refine (toTurns_any cap0 at0 fr0 (hf0.here hbw) hsT hsS).mono ?_; rintro e vF ⟨gF, rfl, tF, hbF⟩; have hbw := below_step hbw hbF; have C : Hid (Cells vF [(w.heap.size, 0, .slice a0 fs0.length cap0), (w.heap.size, 1, .int .i64 at0), (w.heap.size, 2, .bool fr0)]) := C.out.next hbF; have ⟨⟨kz0, k0⟩, ⟨kz1, k1⟩, ⟨kz2, k2⟩, _⟩ := C.out)
      | (go_at_call 16; refine (HSP.out _ _ fs0.length tF.fls.2 hn0 hb0).mono ?_; rintro e vP ⟨a8, c8, s8, rfl, t8, i8, hbP⟩; have hbw := below_step hbw hbP; have C : Hid (Cells vP [(w.heap.size, 0, .slice a0 fs0.length cap0), (w.heap.size, 1, .int .i64 at0), (w.heap.size, 2, .bool fr0)]) := C.out.next hbP; have ⟨⟨kz0, k0⟩, ⟨kz1, k1⟩, ⟨kz2, k2⟩, _⟩ := C.out; have o8 : Hid (∀ g, s8.ownBlock = some g → vF.heap.size ≤ g ∧ g < vP.heap.size) := fun g e => i8.own e))
    obtain ⟨va, hv⟩ : ∃ v, v = vP.alloc (.cells #[.slice a8 Y.length c8, .int .i64 ya, .bool yf] 28) := ⟨_, rfl⟩
    rw [← hv]
    have hbA : Below vP.heap.size vP va := by rw [hv]; exact newB _ _
    have cA0 : va.cell? ⟨vP.heap.size, 0, none⟩ = some (.slice a8 Y.length c8) := by rw [hv]; go_simp
    have cA1 : va.cell? ⟨vP.heap.size, 1, none⟩ = some (.int .i64 ya) := by rw [hv]; go_simp
    have cA2 : va.cell? ⟨vP.heap.size, 2, none⟩ = some (.bool yf) := by rw [hv]; go_simp
    have zA : vP.heap.size < va.heap.size := by rw [hv]; simp
    clear hv
    obtain ⟨b8, hb8⟩ : ∃ b, b = vP.heap.size := ⟨_, rfl⟩
    rw [← hb8] at cA0 cA1 cA2 ⊢
    have yb8 : b8 < va.heap.size := by omega
    have lb8 : vP.heap.size ≤ b8 ∧ b8 ≤ vP.heap.size := by omega
    clear hb8
    have hbw := below_step hbw hbA
    have t8 := t8.next hbA
    have i8 := i8.next hbA
    have l8 : vP.heap.size ≤ va.heap.size := hbA.size
    have C : Hid (Cells va [(w.heap.size, 0, .slice a0 fs0.length cap0), (w.heap.size, 1, .int .i64 at0), (w.heap.size, 2, .bool fr0), (b8, 0, .slice a8 Y.length c8), (b8, 1, .int .i64 ya), (b8, 2, .bool yf)]) := by
      obtain ⟨d0, d1, d2, _⟩ := C.out.next hbA
      exact ⟨d0, d1, d2, ⟨yb8, cA0⟩, ⟨yb8, cA1⟩, ⟨yb8, cA2⟩, trivial⟩
    clear kz0 k0 kz1 k1 kz2 k2 cA0 cA1 cA2 hbA tF
    have ⟨⟨kz0, k0⟩, ⟨kz1, k1⟩, ⟨kz2, k2⟩, ⟨kz3, k3⟩, ⟨kz4, k4⟩, ⟨kz5, k5⟩, _⟩ := C.out
    go_upto_region 7 with (first
      | (go_at_call 11; refine (toTurns_any cap0 at0 fr0 (hf0.here hbw) hsT hsS).mono ?_; rintro e vX ⟨gx, rfl, tX, hbF⟩; have hbw := below_step hbw hbF; have C : Hid (Cells vX [(w.heap.size, 0, .slice a0 fs0.length cap0), (w.heap.size, 1, .int .i64 at0), (w.heap.size, 2, .bool fr0), (b8, 0, .slice a8 Y.length c8), (b8, 1, .int .i64 ya), (b8, 2, .bool yf)]) := C.out.next hbF; have ⟨⟨kz0, k0⟩, ⟨kz1, k1⟩, ⟨kz2, k2⟩, ⟨kz3, k3⟩, ⟨kz4, k4⟩, ⟨kz5, k5⟩, _⟩ := C.out; have t8 := t8.next hbF; have i8 := i8.next hbF; have lx := hbF.size))
    obtain ⟨v2, hv⟩ : ∃ v, v = vX.alloc (.cells #[.slice (some ⟨gx, 0, none⟩) fs0.length fs0.length, .int .i64 at0, .bool fr0] 28) := ⟨_, rfl⟩
    rw [← hv]
    have hbA : Below vX.heap.size vX v2 := by rw [hv]; exact newB _ _
    have cA0 : v2.cell? ⟨vX.heap.size, 0, none⟩ = some (.slice (some ⟨gx, 0, none⟩) fs0.length fs0.length) := by rw [hv]; go_simp
    have cA1 : v2.cell? ⟨vX.heap.size, 1, none⟩ = some (.int .i64 at0) := by rw [hv]; go_simp
    have cA2 : v2.cell? ⟨vX.heap.size, 2, none⟩ = some (.bool fr0) := by rw [hv]; go_simp
    have zA : vX.heap.size < v2.heap.size := by rw [hv]; simp
    clear hv
    obtain ⟨bx, hbx⟩ : ∃ b, b = vX.heap.size := ⟨_, rfl⟩
    rw [← hbx] at cA0 cA1 cA2 ⊢
    have ybx : bx < v2.heap.size := by omega
    have lbx : vX.heap.size ≤ bx ∧ bx ≤ vX.heap.size := by omega
    clear hbx
    have hbw := below_step hbw hbA
    have t8 := t8.next hbA
    have i8 := i8.next hbA
    have tX := tX.next hbA
    have l2 := hbA.size
    have C : Hid (Cells v2 [(w.heap.size, 0, .slice a0 fs0.length cap0), (w.heap.size, 1, .int .i64 at0), (w.heap.size, 2, .bool fr0), (b8, 0, .slice a8 Y.length c8), (b8, 1, .int .i64 ya), (b8, 2, .bool yf), (bx, 0, .slice (some ⟨gx, 0, none⟩) fs0.length fs0.length), (bx, 1, .int .i64 at0), (bx, 2, .bool fr0)]) := by
      obtain ⟨d0, d1, d2, d3, d4, d5, _⟩ := C.out.next hbA
      exact ⟨d0, d1, d2, d3, d4, d5, ⟨ybx, cA0⟩, ⟨ybx, cA1⟩, ⟨ybx, cA2⟩, trivial⟩
    clear kz0 k0 kz1 k1 kz2 k2 kz3 k3 kz4 k4 kz5 k5 cA0 cA1 cA2 hbA
    have ⟨⟨kz0, k0⟩, ⟨kz1, k1⟩, ⟨kz2, k2⟩, ⟨kz3, k3⟩, ⟨kz4, k4⟩, ⟨kz5, k5⟩, ⟨kz6, k6⟩, ⟨kz7, k7⟩, ⟨kz8, k8⟩, _⟩ := C.out
    go_upto_region 8 with (first
      | (go_at_call 17; refine (HIM.out _ _ fs0.length tX.fls.2 hn0 hb0).mono ?_; rintro e vG ⟨ag, cg, sg', mg, rfl, tG, iG, hbP, hmg0, hmg1⟩; have hbw := below_step hbw hbP; have C : Hid (Cells vG [(w.heap.size, 0, .slice a0 fs0.length cap0), (w.heap.size, 1, .int .i64 at0), (w.heap.size, 2, .bool fr0), (b8, 0, .slice a8 Y.length c8), (b8, 1, .int .i64 ya), (b8, 2, .bool yf), (bx, 0, .slice (some ⟨gx, 0, none⟩) fs0.length fs0.length), (bx, 1, .int .i64 at0), (bx, 2, .bool fr0)]) := C.out.next hbP; have ⟨⟨kz0, k0⟩, ⟨kz1, k1⟩, ⟨kz2, k2⟩, ⟨kz3, k3⟩, ⟨kz4, k4⟩, ⟨kz5, k5⟩, ⟨kz6, k6⟩, ⟨kz7, k7⟩, ⟨kz8, k8⟩, _⟩ := C.out; have t8 := t8.next hbP; have i8 := i8.next hbP; have tX := tX.next hbP; have lG := hbP.size; have oG : Hid (∀ g, sg'.ownBlock = some g → mg ≤ g ∧ g < vG.heap.size) := fun g e => iG.own e))
    obtain ⟨v3, hv⟩ : ∃ v, v = vG.alloc (.cells #[.slice ag Y.length cg, .int .i64 ya, .bool yf] 28) := ⟨_, rfl⟩
    rw [← hv]
    have hbA : Below vG.heap.size vG v3 := by rw [hv]; exact newB _ _
    have cA0 : v3.cell? ⟨vG.heap.size, 0, none⟩ = some (.slice ag Y.length cg) := by rw [hv]; go_simp
    have cA1 : v3.cell? ⟨vG.heap.size, 1, none⟩ = some (.int .i64 ya) := by rw [hv]; go_simp
    have cA2 : v3.cell? ⟨vG.heap.size, 2, none⟩ = some (.bool yf) := by rw [hv]; go_simp
    have zA : vG.heap.size < v3.heap.size := by rw [hv]; simp
    clear hv
    obtain ⟨bg, hbg⟩ : ∃ b, b = vG.heap.size := ⟨_, rfl⟩
    rw [← hbg] at cA0 cA1 cA2 ⊢
    have ybg : bg < v3.heap.size := by omega
    have lbg : vG.heap.size ≤ bg ∧ bg ≤ vG.heap.size := by omega
    clear hbg
    have hbw := below_step hbw hbA
    have t8 := t8.next hbA
    have i8 := i8.next hbA
    have tX := tX.next hbA
    have tG := tG.next hbA
    have iG := iG.next hbA
    have l3 := hbA.size
    have C : Hid (Cells v3 [(w.heap.size, 0, .slice a0 fs0.length cap0), (w.heap.size, 1, .int .i64 at0), (w.heap.size, 2, .bool fr0), (b8, 0, .slice a8 Y.length c8), (b8, 1, .int .i64 ya), (b8, 2, .bool yf), (bx, 0, .slice (some ⟨gx, 0, none⟩) fs0.length fs0.length), (bx, 1, .int .i64 at0), (bx, 2, .bool fr0), (bg, 0, .slice ag Y.length cg), (bg, 1, .int .i64 ya), (bg, 2, .bool yf)]) := by
      obtain ⟨d0, d1, d2, d3, d4, d5, d6, d7, d8, _⟩ := C.out.next hbA
      exact ⟨d0, d1, d2, d3, d4, d5, d6, d7, d8, ⟨ybg, cA0⟩, ⟨ybg, cA1⟩, ⟨ybg, cA2⟩, trivial⟩
    clear kz0 k0 kz1 k1 kz2 k2 kz3 k3 kz4 k4 kz5 k5 kz6 k6 kz7 k7 kz8 k8 cA0 cA1 cA2 hbA
    have ⟨⟨kz0, k0⟩, ⟨kz1, k1⟩, ⟨kz2, k2⟩, ⟨kz3, k3⟩, ⟨kz4, k4⟩, ⟨kz5, k5⟩, ⟨kz6, k6⟩, ⟨kz7, k7⟩, ⟨kz8, k8⟩, ⟨kz9, k9⟩, ⟨kz10, k10⟩, ⟨kz11, k11⟩, _⟩ := C.out
    go_upto_region 10 with (first
      | (go_at_call 13; refine (eqTurns_any _ _ ya ya yf yf tG.fls.2 t8.fls.2 HFW.out.len HFW.out.each).mono ?_; rintro e v4a ⟨rfl, hbE⟩; rw [eq_all]; have hbw := below_step hbw hbE; have C : Hid (Cells v4a [(w.heap.size, 0, .slice a0 fs0.length cap0), (w.heap.size, 1, .int .i64 at0), (w.heap.size, 2, .bool fr0), (b8, 0, .slice a8 Y.length c8), (b8, 1, .int .i64 ya), (b8, 2, .bool yf), (bx, 0, .slice (some ⟨gx, 0, none⟩) fs0.length fs0.length), (bx, 1, .int .i64 at0), (bx, 2, .bool fr0), (bg, 0, .slice ag Y.length cg), (bg, 1, .int .i64 ya), (bg, 2, .bool yf)]) := C.out.next hbE; have ⟨⟨kz0, k0⟩, ⟨kz1, k1⟩, ⟨kz2, k2⟩, ⟨kz3, k3⟩, ⟨kz4, k4⟩, ⟨kz5, k5⟩, ⟨kz6, k6⟩, ⟨kz7, k7⟩, ⟨kz8, k8⟩, ⟨kz9, k9⟩, ⟨kz10, k10⟩, ⟨kz11, k11⟩, _⟩ := C.out; have t8 := t8.next hbE; have i8 := i8.next hbE; have tX := tX.next hbE; have tG := tG.next hbE; have iG := iG.next hbE; have l4a := hbE.size)
      | (go_at_call 18; refine (eqI_any iG i8 hSl).mono ?_; rintro e v4 ⟨rfl, hbE⟩; rw [eq_ints]; have hbw := below_step hbw hbE; have C : Hid (Cells v4 [(w.heap.size, 0, .slice a0 fs0.length cap0), (w.heap.size, 1, .int .i64 at0), (w.heap.size, 2, .bool fr0), (b8, 0, .slice a8 Y.length c8), (b8, 1, .int .i64 ya), (b8, 2, .bool yf), (bx, 0, .slice (some ⟨gx, 0, none⟩) fs0.length fs0.length), (bx, 1, .int .i64 at0), (bx, 2, .bool fr0), (bg, 0, .slice ag Y.length cg), (bg, 1, .int .i64 ya), (bg, 2, .bool yf)]) := C.out.next hbE; have ⟨⟨kz0, k0⟩, ⟨kz1, k1⟩, ⟨kz2, k2⟩, ⟨kz3, k3⟩, ⟨kz4, k4⟩, ⟨kz5, k5⟩, ⟨kz6, k6⟩, ⟨kz7, k7⟩, ⟨kz8, k8⟩, ⟨kz9, k9⟩, ⟨kz10, k10⟩, ⟨kz11, k11⟩, _⟩ := C.out; have t8 := t8.next hbE; have i8 := i8.next hbE; have tX := tX.next hbE; have tG := tG.next hbE; have iG := iG.next hbE; have l4 := hbE.size))
    have H8 : Hid (TV v4 vF.heap.size vP.heap.size (.slice a8 Y.length c8) Y) := t8
    have HX : Hid (TV v4 va.heap.size vX.heap.size (.slice (some ⟨gx, 0, none⟩) fs0.length fs0.length) fs0) := tX
    have HG : Hid (TV v4 v2.heap.size mg (.slice ag Y.length cg) Y) := tG
    have J8 : Hid (IV v4 vF.heap.size s8 S) := i8
    have JG : Hid (IV v4 mg sg' S) := iG
    have HC : Hid (Cells v4 [(w.heap.size, 0, .slice a0 fs0.length cap0), (w.heap.size, 1, .int .i64 at0), (w.heap.size, 2, .bool fr0), (b8, 0, .slice a8 Y.length c8), (b8, 1, .int .i64 ya), (b8, 2, .bool yf), (bx, 0, .slice (some ⟨gx, 0, none⟩) fs0.length fs0.length), (bx, 1, .int .i64 at0), (bx, 2, .bool fr0), (bg, 0, .slice ag Y.length cg), (bg, 1, .int .i64 ya), (bg, 2, .bool yf)]) := C.out
    clear t8 tX tG C i8 iG
    go_region_held3 (fun w' => w'.cell? ⟨w.heap.size, 0, none⟩ = some (.slice a0 fs0.length cap0) ∧ w'.cell? ⟨w.heap.size, 1, none⟩ = some (.int .i64 at0) ∧ w'.cell? ⟨w.heap.size, 2, none⟩ = some (.bool fr0) ∧ w'.cell? ⟨bx, 0, none⟩ = some (.slice (some ⟨gx, 0, none⟩) fs0.length fs0.length) ∧ w'.cell? ⟨bx, 1, none⟩ = some (.int .i64 at0) ∧ w'.cell? ⟨bx, 2, none⟩ = some (.bool fr0)) (first | (refine ⟨?_, ?_, ?_, ?_, ?_, ?_⟩ <;> first | assumption | (simp only [World.cell?_drew]; assumption)) | go_keep)
      (first
        | (go_at_call 11; refine (toTurns_any cap0 at0 fr0 (hf0.here (by go_grown)) hsT hsS).mono ?_; rintro e v5 ⟨gF, rfl, tF, hbF⟩; have hr := below_step (w := v4) (by go_grown) hbF; have hbw := below_step (w := w) (by go_grown) hbF; have j0 := (below_cells hr _ _ kz0).trans k0; have j1 := (below_cells hr _ _ kz1).trans k1; have j2 := (below_cells hr _ _ kz2).trans k2; have j6 := (below_cells hr _ _ kz6).trans k6; have j7 := (below_cells hr _ _ kz7).trans k7; have j8 := (below_cells hr _ _ kz8).trans k8)
        | (go_at_call 13; refine (eqTurns_any fs0.length fs0.length at0 at0 fr0 fr0 (HX.out.next hr).fls.2 tF.fls.2 hn0 hb0).mono ?_; rintro e v6 ⟨rfl, hbE⟩; rw [eq_all]; have hr := below_step hr hbE; have hbw := below_step hbw hbE; have j0 := (below_cells hr _ _ kz0).trans k0; have j1 := (below_cells hr _ _ kz1).trans k1; have j2 := (below_cells hr _ _ kz2).trans k2; have j6 := (below_cells hr _ _ kz6).trans k6; have j7 := (below_cells hr _ _ kz7).trans k7; have j8 := (below_cells hr _ _ kz8).trans k8))
    have l6 := hr.size
    have C : Hid (Cells v6 [(w.heap.size, 0, .slice a0 fs0.length cap0), (w.heap.size, 1, .int .i64 at0), (w.heap.size, 2, .bool fr0), (b8, 0, .slice a8 Y.length c8), (b8, 1, .int .i64 ya), (b8, 2, .bool yf), (bx, 0, .slice (some ⟨gx, 0, none⟩) fs0.length fs0.length), (bx, 1, .int .i64 at0), (bx, 2, .bool fr0), (bg, 0, .slice ag Y.length cg), (bg, 1, .int .i64 ya), (bg, 2, .bool yf)]) := HC.out.next hr
    have t8 := H8.out.next hr
    have tX := HX.out.next hr
    have tG := HG.out.next hr
    have i8 := J8.out.next hr
    have iG := JG.out.next hr
    clear H8 HX HG HC J8 JG kz0 k0 kz1 k1 kz2 k2 kz3 k3 kz4 k4 kz5 k5 kz6 k6 kz7 k7 kz8 k8 kz9 k9 kz10 k10 kz11 k11 j0 j1 j2 j6 j7 j8 hr tF hbF hbE
    have ⟨⟨kz0, k0⟩, ⟨kz1, k1⟩, ⟨kz2, k2⟩, ⟨kz3, k3⟩, ⟨kz4, k4⟩, ⟨kz5, k5⟩, ⟨kz6, k6⟩, ⟨kz7, k7⟩, ⟨kz8, k8⟩, ⟨kz9, k9⟩, ⟨kz10, k10⟩, ⟨kz11, k11⟩, _⟩ := C.out
    go_upto_region 14 with (first
      | (go_at_call 14; refine (markTurns_any at0 fr0 1 tX (by omega) HS.out (by omega) (by omega)).mono ?_; rintro e v7 ⟨rfl, tM, oM⟩; have hk7 := kAt_pos (k := 1) (fs := fs0) (by omega) fs0.length; have C : Hid (Cells v7 [(w.heap.size, 0, .slice a0 fs0.length cap0), (w.heap.size, 1, .int .i64 at0), (w.heap.size, 2, .bool fr0), (b8, 0, .slice a8 Y.length c8), (b8, 1, .int .i64 ya), (b8, 2, .bool yf), (bx, 0, .slice (some ⟨gx, 0, none⟩) fs0.length fs0.length), (bx, 1, .int .i64 at0), (bx, 2, .bool fr0), (bg, 0, .slice ag Y.length cg), (bg, 1, .int .i64 ya), (bg, 2, .bool yf)]) := C.out.onlyI oM (fun c hc => by (simp only [List.mem_cons, List.not_mem_nil, or_false] at hc; rcases hc with rfl | rfl | rfl | rfl | rfl | rfl | rfl | rfl | rfl | rfl | rfl | rfl <;> (simp only; omega))); have ⟨⟨kz0, k0⟩, ⟨kz1, k1⟩, ⟨kz2, k2⟩, ⟨kz3, k3⟩, ⟨kz4, k4⟩, ⟨kz5, k5⟩, ⟨kz6, k6⟩, ⟨kz7, k7⟩, ⟨kz8, k8⟩, ⟨kz9, k9⟩, ⟨kz10, k10⟩, ⟨kz11, k11⟩, _⟩ := C.out; have t8 := t8.onlyI oM (.inl (by omega)); have tG := tG.onlyI oM (.inr (by omega)); have i8 := i8.onlyI oM (fun g e => .inl (by have := o8.out g e; omega)); have iG := iG.onlyI oM (fun g e => .inr (by have := oG.out g e; omega)); have l7 := oM.size; have hbw := hbw.trans (oM.below (by omega) (by omega))))
    clear tX tM oM
    have hk7' : ¬ (kAt 1 fs0 fs0.length < 0) := by omega
    obtain ⟨M7, hM7⟩ : ∃ M, kAt 1 fs0 fs0.length = M := ⟨_, rfl⟩
    rw [hM7] at hk7 hk7' ⊢
    clear hM7
    go_upto_region 17 with (first
      | (go_at_call 13; refine (eqTurns_any _ _ ya ya yf yf tG.fls.2 t8.fls.2 HFW.out.len HFW.out.each).mono ?_; rintro e v8a ⟨rfl, hbE⟩; rw [eq_all]; have hbw := below_step hbw hbE; have C : Hid (Cells v8a [(w.heap.size, 0, .slice a0 fs0.length cap0), (w.heap.size, 1, .int .i64 at0), (w.heap.size, 2, .bool fr0), (b8, 0, .slice a8 Y.length c8), (b8, 1, .int .i64 ya), (b8, 2, .bool yf), (bx, 0, .slice (some ⟨gx, 0, none⟩) fs0.length fs0.length), (bx, 1, .int .i64 at0), (bx, 2, .bool fr0), (bg, 0, .slice ag Y.length cg), (bg, 1, .int .i64 ya), (bg, 2, .bool yf)]) := C.out.next hbE; have ⟨⟨kz0, k0⟩, ⟨kz1, k1⟩, ⟨kz2, k2⟩, ⟨kz3, k3⟩, ⟨kz4, k4⟩, ⟨kz5, k5⟩, ⟨kz6, k6⟩, ⟨kz7, k7⟩, ⟨kz8, k8⟩, ⟨kz9, k9⟩, ⟨kz10, k10⟩, ⟨kz11, k11⟩, _⟩ := C.out; have t8 := t8.next hbE; have i8 := i8.next hbE; have tG := tG.next hbE; have iG := iG.next hbE; have l8a := hbE.size)
      | (go_at_call 18; refine (eqI_any iG i8 hSl).mono ?_; rintro e v8 ⟨rfl, hbE⟩; rw [eq_ints]; have hbw := below_step hbw hbE; have C : Hid (Cells v8 [(w.heap.size, 0, .slice a0 fs0.length cap0), (w.heap.size, 1, .int .i64 at0), (w.heap.size, 2, .bool fr0), (b8, 0, .slice a8 Y.length c8), (b8, 1, .int .i64 ya), (b8, 2, .bool yf), (bx, 0, .slice (some ⟨gx, 0, none⟩) fs0.length fs0.length), (bx, 1, .int .i64 at0), (bx, 2, .bool fr0), (bg, 0, .slice ag Y.length cg), (bg, 1, .int .i64 ya), (bg, 2, .bool yf)]) := C.out.next hbE; have ⟨⟨kz0, k0⟩, ⟨kz1, k1⟩, ⟨kz2, k2⟩, ⟨kz3, k3⟩, ⟨kz4, k4⟩, ⟨kz5, k5⟩, ⟨kz6, k6⟩, ⟨kz7, k7⟩, ⟨kz8, k8⟩, ⟨kz9, k9⟩, ⟨kz10, k10⟩, ⟨kz11, k11⟩, _⟩ := C.out; have t8 := t8.next hbE; have i8 := i8.next hbE; have tG := tG.next hbE; have iG := iG.next hbE; have l8' := hbE.size))
    go_upto_region 18 with (first
      | (go_at_call 14; refine (markTurns_any ya yf 1 tG (by omega) HFW.out.all (by omega) (by omega)).mono ?_; rintro e v9 ⟨rfl, tN, oN⟩; have C : Hid (Cells v9 [(w.heap.size, 0, .slice a0 fs0.length cap0), (w.heap.size, 1, .int .i64 at0), (w.heap.size, 2, .bool fr0), (b8, 0, .slice a8 Y.length c8), (b8, 1, .int .i64 ya), (b8, 2, .bool yf), (bx, 0, .slice (some ⟨gx, 0, none⟩) fs0.length fs0.length), (bx, 1, .int .i64 at0), (bx, 2, .bool fr0), (bg, 0, .slice ag Y.length cg), (bg, 1, .int .i64 ya), (bg, 2, .bool yf)]) := C.out.onlyI oN (fun c hc => by (simp only [List.mem_cons, List.not_mem_nil, or_false] at hc; rcases hc with rfl | rfl | rfl | rfl | rfl | rfl | rfl | rfl | rfl | rfl | rfl | rfl <;> (simp only; omega))); have ⟨⟨kz0, k0⟩, ⟨kz1, k1⟩, ⟨kz2, k2⟩, ⟨kz3, k3⟩, ⟨kz4, k4⟩, ⟨kz5, k5⟩, ⟨kz6, k6⟩, ⟨kz7, k7⟩, ⟨kz8, k8⟩, ⟨kz9, k9⟩, ⟨kz10, k10⟩, ⟨kz11, k11⟩, _⟩ := C.out; have t8 := t8.onlyI oN (.inl (by omega)); have i8 := i8.onlyI oN (fun g e => .inl (by have := o8.out g e; omega)); have iG := iG.onlyI oN (fun g e => .inr (by have := oG.out g e; omega)); have l9 := oN.size; have hbw := hbw.trans (oN.below (by omega) (by omega))))
    clear tG oN
    have hk9 := kAt_pos (k := 1) (fs := Y) (by omega) Y.length
    have hk9' : ¬ (kAt 1 Y Y.length < 0) := by omega
    have hk9u := kAt_few HFW.out
    obtain ⟨M9, hM9⟩ : ∃ M, kAt 1 Y Y.length = M := ⟨_, rfl⟩
    have HM9 : Hid (kAt 1 Y Y.length = M9) := hM9
    rw [hM9] at hk9 hk9' hk9u ⊢
    clear hM9
    go_upto_region 19 with (first
      | (go_at_call 19; refine (markI_any M9 iG hSm hk9 (by omega)).mono ?_; rintro e vm ⟨rfl, iN, oS⟩; have oI : OnlyI mg vG.heap.size v9 vm := OnlyI.ofO oS (fun g e => oG.out g e); clear oS; have C : Hid (Cells vm [(w.heap.size, 0, .slice a0 fs0.length cap0), (w.heap.size, 1, .int .i64 at0), (w.heap.size, 2, .bool fr0), (b8, 0, .slice a8 Y.length c8), (b8, 1, .int .i64 ya), (b8, 2, .bool yf), (bx, 0, .slice (some ⟨gx, 0, none⟩) fs0.length fs0.length), (bx, 1, .int .i64 at0), (bx, 2, .bool fr0), (bg, 0, .slice ag Y.length cg), (bg, 1, .int .i64 ya), (bg, 2, .bool yf)]) := C.out.onlyI oI (fun c hc => by (simp only [List.mem_cons, List.not_mem_nil, or_false] at hc; rcases hc with rfl | rfl | rfl | rfl | rfl | rfl | rfl | rfl | rfl | rfl | rfl | rfl <;> (simp only; omega))); have ⟨⟨kz0, k0⟩, ⟨kz1, k1⟩, ⟨kz2, k2⟩, ⟨kz3, k3⟩, ⟨kz4, k4⟩, ⟨kz5, k5⟩, ⟨kz6, k6⟩, ⟨kz7, k7⟩, ⟨kz8, k8⟩, ⟨kz9, k9⟩, ⟨kz10, k10⟩, ⟨kz11, k11⟩, _⟩ := C.out; have t8 := t8.onlyI oI (.inl (by omega)); have tN := tN.onlyI oI (.inl (by omega)); have i8 := i8.onlyI oI (fun g e => .inl (by have := o8.out g e; omega)); have lm := oI.size; have hbw := hbw.trans (oI.below (by omega) (by omega))))
    clear iG oI
    have hq9 : ¬ (M9 + (S.length : Int) < 0) := by omega
    go_upto_region 28 with (first
      | (go_at_call 15; refine (heldTurns_any ya yf 1 tN HFW.out.all (by omega) (by omega)).mono ?_; rintro e vH ⟨rfl, hbH⟩; rw [HM9.out]; have hbw := below_step hbw hbH; have C : Hid (Cells vH [(w.heap.size, 0, .slice a0 fs0.length cap0), (w.heap.size, 1, .int .i64 at0), (w.heap.size, 2, .bool fr0), (b8, 0, .slice a8 Y.length c8), (b8, 1, .int .i64 ya), (b8, 2, .bool yf), (bx, 0, .slice (some ⟨gx, 0, none⟩) fs0.length fs0.length), (bx, 1, .int .i64 at0), (bx, 2, .bool fr0), (bg, 0, .slice ag Y.length cg), (bg, 1, .int .i64 ya), (bg, 2, .bool yf)]) := C.out.next hbH; have ⟨⟨kz0, k0⟩, ⟨kz1, k1⟩, ⟨kz2, k2⟩, ⟨kz3, k3⟩, ⟨kz4, k4⟩, ⟨kz5, k5⟩, ⟨kz6, k6⟩, ⟨kz7, k7⟩, ⟨kz8, k8⟩, ⟨kz9, k9⟩, ⟨kz10, k10⟩, ⟨kz11, k11⟩, _⟩ := C.out; have t8 := t8.next hbH; have i8 := i8.next hbH; have tN := tN.next hbH; have iN := iN.next hbH)
      | (go_at_call 20; refine (heldI_any M9 iN hSm hk9 (by omega)).mono ?_; rintro e vH2 ⟨rfl, hbH⟩; have hbw := below_step hbw hbH; have C : Hid (Cells vH2 [(w.heap.size, 0, .slice a0 fs0.length cap0), (w.heap.size, 1, .int .i64 at0), (w.heap.size, 2, .bool fr0), (b8, 0, .slice a8 Y.length c8), (b8, 1, .int .i64 ya), (b8, 2, .bool yf), (bx, 0, .slice (some ⟨gx, 0, none⟩) fs0.length fs0.length), (bx, 1, .int .i64 at0), (bx, 2, .bool fr0), (bg, 0, .slice ag Y.length cg), (bg, 1, .int .i64 ya), (bg, 2, .bool yf)]) := C.out.next hbH; have ⟨⟨kz0, k0⟩, ⟨kz1, k1⟩, ⟨kz2, k2⟩, ⟨kz3, k3⟩, ⟨kz4, k4⟩, ⟨kz5, k5⟩, ⟨kz6, k6⟩, ⟨kz7, k7⟩, ⟨kz8, k8⟩, ⟨kz9, k9⟩, ⟨kz10, k10⟩, ⟨kz11, k11⟩, _⟩ := C.out; have t8 := t8.next hbH; have i8 := i8.next hbH; have tN := tN.next hbH; have iN := iN.next hbH))
    go_upto_region 29 with (first
      | (go_at_call 11; refine (toTurns_any cap0 at0 fr0 (hf0.here hbw) hsT hsS).mono ?_; rintro e vI ⟨gI, rfl, tI, hbF⟩; have hbw := below_step hbw hbF; have C : Hid (Cells vI [(w.heap.size, 0, .slice a0 fs0.length cap0), (w.heap.size, 1, .int .i64 at0), (w.heap.size, 2, .bool fr0), (b8, 0, .slice a8 Y.length c8), (b8, 1, .int .i64 ya), (b8, 2, .bool yf), (bx, 0, .slice (some ⟨gx, 0, none⟩) fs0.length fs0.length), (bx, 1, .int .i64 at0), (bx, 2, .bool fr0), (bg, 0, .slice ag Y.length cg), (bg, 1, .int .i64 ya), (bg, 2, .bool yf)]) := C.out.next hbF; have ⟨⟨kz0, k0⟩, ⟨kz1, k1⟩, ⟨kz2, k2⟩, ⟨kz3, k3⟩, ⟨kz4, k4⟩, ⟨kz5, k5⟩, ⟨kz6, k6⟩, ⟨kz7, k7⟩, ⟨kz8, k8⟩, ⟨kz9, k9⟩, ⟨kz10, k10⟩, ⟨kz11, k11⟩, _⟩ := C.out; have t8 := t8.next hbF; have i8 := i8.next hbF; have tN := tN.next hbF; have iN := iN.next hbF)
      | (go_at_call 17; refine (HIM.out _ _ fs0.length tI.fls.2 hn0 hb0).mono ?_; rintro e vJ ⟨ah, ch, sh, mh, rfl, tH, iH, hbP, _, _⟩; have hbw := below_step hbw hbP; have C : Hid (Cells vJ [(w.heap.size, 0, .slice a0 fs0.length cap0), (w.heap.size, 1, .int .i64 at0), (w.heap.size, 2, .bool fr0), (b8, 0, .slice a8 Y.length c8), (b8, 1, .int .i64 ya), (b8, 2, .bool yf), (bx, 0, .slice (some ⟨gx, 0, none⟩) fs0.length fs0.length), (bx, 1, .int .i64 at0), (bx, 2, .bool fr0), (bg, 0, .slice ag Y.length cg), (bg, 1, .int .i64 ya), (bg, 2, .bool yf)]) := C.out.next hbP; have ⟨⟨kz0, k0⟩, ⟨kz1, k1⟩, ⟨kz2, k2⟩, ⟨kz3, k3⟩, ⟨kz4, k4⟩, ⟨kz5, k5⟩, ⟨kz6, k6⟩, ⟨kz7, k7⟩, ⟨kz8, k8⟩, ⟨kz9, k9⟩, ⟨kz10, k10⟩, ⟨kz11, k11⟩, _⟩ := C.out; have t8 := t8.next hbP; have i8 := i8.next hbP; have tN := tN.next hbP; have iN := iN.next hbP))
    obtain ⟨vK, hv⟩ : ∃ v, v = vJ.alloc (.cells #[.slice ah Y.length ch, .int .i64 ya, .bool yf] 28) := ⟨_, rfl⟩
    rw [← hv]
    have hbA : Below vJ.heap.size vJ vK := by rw [hv]; exact newB _ _
    have cA0 : vK.cell? ⟨vJ.heap.size, 0, none⟩ = some (.slice ah Y.length ch) := by rw [hv]; go_simp
    have cA1 : vK.cell? ⟨vJ.heap.size, 1, none⟩ = some (.int .i64 ya) := by rw [hv]; go_simp
    have cA2 : vK.cell? ⟨vJ.heap.size, 2, none⟩ = some (.bool yf) := by rw [hv]; go_simp
    have zA : vJ.heap.size < vK.heap.size := by rw [hv]; simp
    clear hv
    obtain ⟨bh, hbh⟩ : ∃ b, b = vJ.heap.size := ⟨_, rfl⟩
    rw [← hbh] at cA0 cA1 cA2 ⊢
    have ybh : bh < vK.heap.size := by omega
    have lbh : vJ.heap.size ≤ bh ∧ bh ≤ vJ.heap.size := by omega
    clear hbh
    have hbw := below_step hbw hbA
    have t8 := t8.next hbA
    have i8 := i8.next hbA
    have tN := tN.next hbA
    have iN := iN.next hbA
    have tH := tH.next hbA
    have iH := iH.next hbA
    have C : Hid (Cells vK [(w.heap.size, 0, .slice a0 fs0.length cap0), (w.heap.size, 1, .int .i64 at0), (w.heap.size, 2, .bool fr0), (b8, 0, .slice a8 Y.length c8), (b8, 1, .int .i64 ya), (b8, 2, .bool yf), (bx, 0, .slice (some ⟨gx, 0, none⟩) fs0.length fs0.length), (bx, 1, .int .i64 at0), (bx, 2, .bool fr0), (bg, 0, .slice ag Y.length cg), (bg, 1, .int .i64 ya), (bg, 2, .bool yf)]) := C.out.next hbA
    clear kz0 k0 kz1 k1 kz2 k2 kz3 k3 kz4 k4 kz5 k5 kz6 k6 kz7 k7 kz8 k8 kz9 k9 kz10 k10 kz11 k11 hbA tI
    have ⟨⟨kz0, k0⟩, ⟨kz1, k1⟩, ⟨kz2, k2⟩, ⟨kz3, k3⟩, ⟨kz4, k4⟩, ⟨kz5, k5⟩, ⟨kz6, k6⟩, ⟨kz7, k7⟩, ⟨kz8, k8⟩, ⟨kz9, k9⟩, ⟨kz10, k10⟩, ⟨kz11, k11⟩, _⟩ := C.out
    go_upto_region 31 with (first
      | (go_at_call 13; refine (eqTurns_any _ _ ya ya yf yf tH.fls.2 t8.fls.2 HFW.out.len HFW.out.each).mono ?_; rintro e vLa ⟨rfl, hbE⟩; rw [eq_all]; have hbw := below_step hbw hbE; have C : Hid (Cells vLa [(w.heap.size, 0, .slice a0 fs0.length cap0), (w.heap.size, 1, .int .i64 at0), (w.heap.size, 2, .bool fr0), (b8, 0, .slice a8 Y.length c8), (b8, 1, .int .i64 ya), (b8, 2, .bool yf), (bx, 0, .slice (some ⟨gx, 0, none⟩) fs0.length fs0.length), (bx, 1, .int .i64 at0), (bx, 2, .bool fr0), (bg, 0, .slice ag Y.length cg), (bg, 1, .int .i64 ya), (bg, 2, .bool yf)]) := C.out.next hbE; have ⟨⟨kz0, k0⟩, ⟨kz1, k1⟩, ⟨kz2, k2⟩, ⟨kz3, k3⟩, ⟨kz4, k4⟩, ⟨kz5, k5⟩, ⟨kz6, k6⟩, ⟨kz7, k7⟩, ⟨kz8, k8⟩, ⟨kz9, k9⟩, ⟨kz10, k10⟩, ⟨kz11, k11⟩, _⟩ := C.out; have i8 := i8.next hbE; have tN := tN.next hbE; have iN := iN.next hbE; have iH := iH.next hbE)
      | (go_at_call 18; refine (eqI_any iH i8 hSl).mono ?_; rintro e vL ⟨rfl, hbE⟩; rw [eq_ints]; have hbw := below_step hbw hbE; have C : Hid (Cells vL [(w.heap.size, 0, .slice a0 fs0.length cap0), (w.heap.size, 1, .int .i64 at0), (w.heap.size, 2, .bool fr0), (b8, 0, .slice a8 Y.length c8), (b8, 1, .int .i64 ya), (b8, 2, .bool yf), (bx, 0, .slice (some ⟨gx, 0, none⟩) fs0.length fs0.length), (bx, 1, .int .i64 at0), (bx, 2, .bool fr0), (bg, 0, .slice ag Y.length cg), (bg, 1, .int .i64 ya), (bg, 2, .bool yf)]) := C.out.next hbE; have ⟨⟨kz0, k0⟩, ⟨kz1, k1⟩, ⟨kz2, k2⟩, ⟨kz3, k3⟩, ⟨kz4, k4⟩, ⟨kz5, k5⟩, ⟨kz6, k6⟩, ⟨kz7, k7⟩, ⟨kz8, k8⟩, ⟨kz9, k9⟩, ⟨kz10, k10⟩, ⟨kz11, k11⟩, _⟩ := C.out; have tN := tN.next hbE; have iN := iN.next hbE))
    go_wp2_with (first
      | (go_at_call 15; refine (heldTurns_any ya yf 1 tN HFW.out.all (by omega) (by omega)).mono ?_; rintro e vM ⟨rfl, hbH⟩; rw [HM9.out]; have hbw := below_step hbw hbH; have iN := iN.next hbH)
      | (go_at_call 20; refine (heldI_any M9 iN hSm hk9 (by omega)).mono ?_; rintro e vM2 ⟨rfl, hbH⟩; have hbw := below_step hbw hbH))
    go_ret
    exact ⟨rfl, hbw⟩
  · have hz : (if fs0.length + sumL fs0 fs0.length ≤ 1048576 then 1048576 - (fs0.length : Int) - (sumL fs0 fs0.length : Int) else -1) = -1 := if_neg hs
    have HZ : Hid ((if fs0.length + sumL fs0 fs0.length ≤ 1048576 then 1048576 - (fs0.length : Int) - (sumL fs0 fs0.length : Int) else -1) = -1) := hz
    clear hz hs
    go_enter Try.func4, Try.ntmps4
    go_wp2_with (first
      | (go_at_call 9; refine (szTurns_any cap0 at0 fr0 (hf0.here (newB _ _)) hm0 hl0).mono ?_; rintro e v1 ⟨rfl, hb1⟩; rw [HZ.out]))
    go_ret
    exact ⟨rfl, below_step (newB w _) hb1⟩

/-! ### THE ROW's STEP -/
set_option maxRecDepth 100000 in
theorem lifted (os : Os) (started : os.Started) (H : Type) (enc : TypeId × Value → H) :
    ReturnsInHanded {} Try.checked os 4 .any (Rows.fnExactServeAllSpec.pre6 enc Try.prog Try.f4 Rows.fnExactServeAllRow.domain false) (Rows.fnExactServeAllSpec.post enc Try.prog Try.f4 false true false false) := by
  refine returnsInHanded_of_change (C := Try.checked) own started (by kernel_rfl) Try.func4
    (ChangeSpec.witness6 (enc := enc) (C := Try.checked) false ⟨#[], #[.agg #[.slice none 0 0, .int .i64 0, .bool false], .int .i64 0], []⟩ 8 (by kernel_rfl) (by kernel_rfl) (by kernel_rfl) (by kernel_rfl)) ?_
  intro W base args ds gs before hval0 hW hcnd _
  have hval : ∀ (j : Nat) t v, Try.f4.params[j]? = some t → args[j]? = some v → Value.okWide Try.prog W .any base t v := hval0
  have hW' := hW
  have hlt := hW'.lt
  obtain ⟨p, q, hA0, hV, rfl, hfz, hnd⟩ := hW
  have hA : DataW.TrodAll enc Try.prog W 0 (fun _ => true) true Try.f4.params.toList args.toList ds p := hA0
  rw [Try.params4] at hA hval
  have hR := hA
  obtain ⟨v0, vs0, d0, ds0, p0, q0, hargs, rfl, rfl, h0, r0⟩ := trodAll_cons hA
  obtain ⟨v1, vs1, d1, ds1, p1, q1, rfl, rfl, rfl, h1, r1⟩ := trodAll_cons r0
  obtain ⟨rfl, rfl, rfl⟩ := trodAll_nil r1
  obtain rfl : args = #[v0, v1] := by cases args; simp_all
  obtain ⟨rfl, rfl⟩ := trodVars_none hV
  obtain ⟨a0, cap0, fs0, at0, fr0, rfl, hf0, hm0, hl0⟩ := open_turns (hval 0 24 v0 rfl rfl) h0
  obtain ⟨a1, rfl, rfl, rfl, w1⟩ := open_int Try.underlying2 (hval 1 2 v1 rfl rfl) h1
  clear hA0 hval0
  refine (walk W a0 cap0 fs0 at0 fr0 hf0 hm0 hl0 a1 w1).mono fun e W' ⟨he, hg⟩ => ?_
  subst he
  exact ⟨_, rfl, _, _, _, [], _, [], hW', (trodAll_cons_mk (shut_bool Try.underlying4 _) trodAll_mk0), trodAll_after table_ok hg (by decide) hR (fun x hx => hlt x (List.mem_append.2 (.inl hx))), rfl, hg.frame _, fun h => by cases h⟩

theorem over : Rows.fnExactServeAllRow.holds Try.pinned (OpenSpec.ofChange Rows.fnExactServeAllSpec) :=
  OpenClaim.holds_of_wide 4 Try.f4 rfl rfl rfl rfl rfl rfl rfl ⟨rfl, rfl, rfl, rfl, rfl⟩ rfl rfl rfl rfl rfl (by kernel_rfl) Try.func4 (by kernel_rfl)
    (of_decide_eq_true (by kernel_rfl)) (by unfold Func.isWrapper; first | (rw [if_pos (by decide +kernel)]; kernel_rfl) | (rw [if_neg (by decide +kernel)]; exact ⟨rfl, rfl⟩))
    (fun os started H enc _ => lifted os started H enc)

theorem proved : Rows.FnExactServeAllSaid := over
#print axioms proved
end Go.Proofs.Ytohenfogiegkman.fnExactServeAll
namespace Go.Proofs.Ytohenfogiegkman
theorem fnExactServeAll_holds : Rows.FnExactServeAllSaid := fnExactServeAll.proved
#print axioms fnExactServeAll_holds
end Go.Proofs.Ytohenfogiegkman
