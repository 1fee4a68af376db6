/- Proved: at every list of classes and every number impl.NewLend answers as spec.NewLend does, writes nothing into its argument, and its answer owns its memory (the law FnExactNewLend returns true and its arguments read as before); no condition. -/
import Derived.Test.YtcepopboldnicalRows
import Derived.WalkKit
import Derived.ProofKit
import Derived.OpenShut
import Derived.ShutString
import Derived.Below
import Derived.Laws.Cover2
import Derived.Test.YtcepopboldnicalNewBoth
import Derived.Test.YtcepopboldnicalGrpL
import Derived.Test.YtcepopboldnicalGrpA
import Derived.Deep.RegionHeld3
import Derived.Deep.DeepCutAuto
namespace Go.Proofs.Ytcepopboldnical.fnExactNewLend
open Go.ChangeShapes Go.WideShapes Go.ChangeAt Go.RowKit
set_option linter.unusedVariables false

theorem own : ownKnob Try.prog.godebug = none := by kernel_rfl

set_option linter.unusedSimpArgs false

/-! ### STEP 1: the walk -/
set_option maxHeartbeats 16000000 in
theorem walk (w : World) (a0 : Option Addr) (cap0 : Nat) (xs0 : List Q4) (hs0 : Quad w.heap.size w a0 xs0) (hi0 : ∀ x ∈ xs0, I64 x.1 ∧ I64 x.2.1 ∧ I64 x.2.2.1 ∧ I64 x.2.2.2) (hn0 : a0 = none → xs0 = [] ∧ cap0 = 0) (hc0 : xs0.length ≤ cap0) (hm0 : cap0 ≤ maxLen) (a1 : Int) (w1 : (Lit.int .i64 a1).wf = true) :
    Calls Try.prog 7 #[.slice a0 xs0.length cap0, .int .i64 a1] w fun e w' => e = .returned (.bool true) ∧ Below w.heap.size w w' := by
  have hl : (xs0.length : Int) ≤ 9223372036854775807 := by unfold maxLen at hm0; omega
  by_cases hsC : xs0.length ≤ 1048576
  · have hz : (if xs0.length ≤ 1048576 then 1048576 - (xs0.length : Int) else -1) = 1048576 - (xs0.length : Int) := if_pos hsC
    have hz' : (0 : Int) ≤ 1048576 - (xs0.length : Int) := by omega
    obtain ⟨YT, YO, YP, f, ⟨hyT, hyO, hyP⟩, hsp, him⟩ := newlends xs0 a1
    have HSP : Hid _ := hsp
    have HIM : Hid _ := him
    clear hsp him
    go_enter Try.func7, Try.ntmps7
    go_upto_region 5 with (first
      | (go_at_call 9; refine (szClassS_any _ _ _ _ hl).mono ?_; rintro e v1 ⟨rfl, h1⟩; have h1 := h1.symm; subst h1; rw [hz]; have C : Hid (Cells w []) := trivial; have hbw : Below w.heap.size w w := Below.refl _ _; have zw := hbw.size))
    go_upto_region 6 with (first
      | (go_at_call 11; refine (toClassS_any cap0 (hs0.here (by go_grown)) hsC).mono ?_; rintro e vQ ⟨gq, rfl, hgq0, hgq1, fgq, hbS⟩; have hbw := below_step (w := w) (by go_grown) hbS; have C : Hid (Cells vQ []) := C.out.next (below_step (by go_grown) hbS); skip; have zw := hbw.size; have zS := hbS.size; (try simp at hgq0))
      | (go_at_call 24; refine (HSP.out _ _ xs0.length  (fgq.quad hgq1)).mono ?_; rintro e vP ⟨u81, n81, c81, u82, n82, c82, u83, n83, c83, rfl, hlv, hbP⟩; have hbw := below_step (w := w) (by go_grown) hbP; have C : Hid (Cells vP []) := C.out.next (below_step (by go_grown) hbP); skip; have zw := hbw.size; have zP := hbP.size))
    obtain ⟨va, hv⟩ : ∃ v, v = vP.alloc (.cells #[.slice u81 n81 c81, .slice u82 n82 c82, .slice u83 n83 c83] 38) := ⟨_, rfl⟩
    rw [← hv]
    have hbA : Below vP.heap.size vP va := by rw [hv]; exact new_below _ _
    have cA0 : va.cell? ⟨vP.heap.size, 0, none⟩ = some (.slice u81 n81 c81) := by rw [hv]; go_simp
    have cA1 : va.cell? ⟨vP.heap.size, 1, none⟩ = some (.slice u82 n82 c82) := by rw [hv]; go_simp
    have cA2 : va.cell? ⟨vP.heap.size, 2, none⟩ = some (.slice u83 n83 c83) := by rw [hv]; go_simp
    have zA : vP.heap.size < va.heap.size := by rw [hv]; simp
    clear hv
    obtain ⟨b8, hb8⟩ : ∃ b, b = vP.heap.size := ⟨_, rfl⟩
    rw [← hb8] at cA0 cA1 cA2 ⊢
    have yb8 : b8 < va.heap.size := by omega
    have lb8 : vP.heap.size ≤ b8 ∧ b8 ≤ vP.heap.size := by omega
    clear hb8
    have hbw := below_step hbw hbA
    have C : Hid (Cells va [(b8, 0, .slice u81 n81 c81), (b8, 1, .slice u82 n82 c82), (b8, 2, .slice u83 n83 c83)]) := by
      obtain _ := C.out.next hbA
      exact ⟨⟨yb8, cA0⟩, ⟨yb8, cA1⟩, ⟨yb8, cA2⟩, trivial⟩
    have ⟨⟨kz0, k0⟩, ⟨kz1, k1⟩, ⟨kz2, k2⟩, _⟩ := C.out
    have zw := hbw.size
    have lv8 := hlv.next hbA
    have u8 : ∀ g, inL (.slice u81 n81 c81) (.slice u82 n82 c82) (.slice u83 n83 c83) g → w.heap.size ≤ g ∧ g < b8 := fun g hg => (by have := hlv.lo hg; omega)
    clear hlv
    go_upto_region 7 with (first
      | (go_at_call 11; refine (toClassS_any cap0 (hs0.here (by go_grown)) hsC).mono ?_; rintro e v2s ⟨gs, rfl, hgs0, hgs1, fgs, hbS⟩; have hbw := below_step (w := w) (by go_grown) hbS; have C : Hid (Cells v2s [(b8, 0, .slice u81 n81 c81), (b8, 1, .slice u82 n82 c82), (b8, 2, .slice u83 n83 c83)]) := C.out.next (below_step (by go_grown) hbS); have ⟨⟨kz0, k0⟩, ⟨kz1, k1⟩, ⟨kz2, k2⟩, _⟩ := C.out; have lv8 := lv8.next (below_step (by go_grown) hbS); have zw := hbw.size; have zS := hbS.size; (try simp at hgs0)))
    have qx : QV v2s va.heap.size (.slice (some ⟨gs, 0, none⟩) xs0.length xs0.length) xs0 := .inl ⟨gs, _, rfl, by omega, hgs1, fgs, Nat.le_refl _⟩
    have us : ∀ g, roomB (.slice (some ⟨gs, 0, none⟩) xs0.length xs0.length) = some g → va.heap.size ≤ g ∧ g < v2s.heap.size := fun g hg => qx.own hg
    go_upto_region 8 with (first
      | (go_at_call 25; refine (HIM.out _ _ xs0.length  (qx.quad.2.here (by go_grown))).mono ?_; rintro e vI ⟨u111, n111, c111, u112, n112, c112, u113, n113, c113, rfl, hlv, hbP⟩; have hbw := below_step (w := w) (by go_grown) hbP; have C : Hid (Cells vI [(b8, 0, .slice u81 n81 c81), (b8, 1, .slice u82 n82 c82), (b8, 2, .slice u83 n83 c83)]) := C.out.next (below_step (by go_grown) hbP); have ⟨⟨kz0, k0⟩, ⟨kz1, k1⟩, ⟨kz2, k2⟩, _⟩ := C.out; have lv8 := lv8.next (below_step (by go_grown) hbP); have qx := qx.next (below_step (by go_grown) hbP); have zw := hbw.size; have zP := hbP.size))
    obtain ⟨v3, hv⟩ : ∃ v, v = vI.alloc (.cells #[.slice u111 n111 c111, .slice u112 n112 c112, .slice u113 n113 c113] 38) := ⟨_, rfl⟩
    rw [← hv]
    have hbA : Below vI.heap.size vI v3 := by rw [hv]; exact new_below _ _
    have cA0 : v3.cell? ⟨vI.heap.size, 0, none⟩ = some (.slice u111 n111 c111) := by rw [hv]; go_simp
    have cA1 : v3.cell? ⟨vI.heap.size, 1, none⟩ = some (.slice u112 n112 c112) := by rw [hv]; go_simp
    have cA2 : v3.cell? ⟨vI.heap.size, 2, none⟩ = some (.slice u113 n113 c113) := by rw [hv]; go_simp
    have zA : vI.heap.size < v3.heap.size := by rw [hv]; simp
    clear hv
    obtain ⟨b11, hb11⟩ : ∃ b, b = vI.heap.size := ⟨_, rfl⟩
    rw [← hb11] at cA0 cA1 cA2 ⊢
    have yb11 : b11 < v3.heap.size := by omega
    have lb11 : vI.heap.size ≤ b11 ∧ b11 ≤ vI.heap.size := by omega
    clear hb11
    have hbw := below_step hbw hbA
    have C : Hid (Cells v3 [(b8, 0, .slice u81 n81 c81), (b8, 1, .slice u82 n82 c82), (b8, 2, .slice u83 n83 c83), (b11, 0, .slice u111 n111 c111), (b11, 1, .slice u112 n112 c112), (b11, 2, .slice u113 n113 c113)]) := by
      obtain ⟨c0, c1, c2, _⟩ := C.out.next hbA
      exact ⟨c0, c1, c2, ⟨yb11, cA0⟩, ⟨yb11, cA1⟩, ⟨yb11, cA2⟩, trivial⟩
    have ⟨⟨kz0, k0⟩, ⟨kz1, k1⟩, ⟨kz2, k2⟩, ⟨kz3, k3⟩, ⟨kz4, k4⟩, ⟨kz5, k5⟩, _⟩ := C.out
    have lv8 := lv8.next hbA
    have qx := qx.next hbA
    have zw := hbw.size
    have lv11 := hlv.next hbA
    have u11 : ∀ g, inL (.slice u111 n111 c111) (.slice u112 n112 c112) (.slice u113 n113 c113) g → v2s.heap.size ≤ g ∧ g < b11 := fun g hg => (by have := hlv.lo hg; omega)
    clear hlv
    go_upto_region 10 with (first
      | (go_at_call 26; refine (eqLV lv11 lv8 (by omega) (by omega) (by omega)).mono ?_; rintro e v4 ⟨rfl, hbE⟩; have hbw := below_step (w := w) (by go_grown) hbE; have C : Hid (Cells v4 [(b8, 0, .slice u81 n81 c81), (b8, 1, .slice u82 n82 c82), (b8, 2, .slice u83 n83 c83), (b11, 0, .slice u111 n111 c111), (b11, 1, .slice u112 n112 c112), (b11, 2, .slice u113 n113 c113)]) := C.out.next (below_step (by go_grown) hbE); have ⟨⟨kz0, k0⟩, ⟨kz1, k1⟩, ⟨kz2, k2⟩, ⟨kz3, k3⟩, ⟨kz4, k4⟩, ⟨kz5, k5⟩, _⟩ := C.out; have lv8 := lv8.next (below_step (by go_grown) hbE); have qx := qx.next (below_step (by go_grown) hbE); have lv11 := lv11.next (below_step (by go_grown) hbE); have zw := hbw.size; have zE := hbE.size))
    go_upto_region 13 with (first
      | (go_at_call 11; refine (toClassS_any cap0 (hs0.here (by go_grown)) hsC).mono ?_; rintro e vQ5 ⟨gq, rfl, hgq0, hgq1, fgq, hbS⟩; have hbw := below_step (w := w) (by go_grown) hbS; have C : Hid (Cells vQ5 [(b8, 0, .slice u81 n81 c81), (b8, 1, .slice u82 n82 c82), (b8, 2, .slice u83 n83 c83), (b11, 0, .slice u111 n111 c111), (b11, 1, .slice u112 n112 c112), (b11, 2, .slice u113 n113 c113)]) := C.out.next (below_step (by go_grown) hbS); have ⟨⟨kz0, k0⟩, ⟨kz1, k1⟩, ⟨kz2, k2⟩, ⟨kz3, k3⟩, ⟨kz4, k4⟩, ⟨kz5, k5⟩, _⟩ := C.out; have lv8 := lv8.next (below_step (by go_grown) hbS); have qx := qx.next (below_step (by go_grown) hbS); have lv11 := lv11.next (below_step (by go_grown) hbS); have zw := hbw.size; have zS := hbS.size; (try simp at hgq0))
      | (go_at_call 14; refine (eqClassS_any _ _ qx.quad.2 (fgq.quad hgq1) (by omega)).mono ?_; rintro e v5s ⟨rfl, hbE⟩; rw [show decide (xs0 = xs0) = true from decide_eq_true rfl]; have hbw := below_step (w := w) (by go_grown) hbE; have C : Hid (Cells v5s [(b8, 0, .slice u81 n81 c81), (b8, 1, .slice u82 n82 c82), (b8, 2, .slice u83 n83 c83), (b11, 0, .slice u111 n111 c111), (b11, 1, .slice u112 n112 c112), (b11, 2, .slice u113 n113 c113)]) := C.out.next (below_step (by go_grown) hbE); have ⟨⟨kz0, k0⟩, ⟨kz1, k1⟩, ⟨kz2, k2⟩, ⟨kz3, k3⟩, ⟨kz4, k4⟩, ⟨kz5, k5⟩, _⟩ := C.out; have lv8 := lv8.next (below_step (by go_grown) hbE); have qx := qx.next (below_step (by go_grown) hbE); have lv11 := lv11.next (below_step (by go_grown) hbE); have zw := hbw.size; have zE := hbE.size))
    have C : Hid (Cells v5s [(b8, 0, .slice u81 n81 c81), (b8, 1, .slice u82 n82 c82), (b8, 2, .slice u83 n83 c83), (b11, 0, .slice u111 n111 c111), (b11, 1, .slice u112 n112 c112), (b11, 2, .slice u113 n113 c113)]) := by
      obtain ⟨c0, c1, c2, c3, c4, c5, _⟩ := C.out
      exact ⟨c0, c1, c2, c3, c4, c5, trivial⟩
    have hkb : decide (1 + 4 * (xs0.length : Int) < 0) = false := decide_eq_false (by omega)
    have hkc : decide (1 + 4 * (YT.length : Int) + 4 * (YO.length : Int) + 4 * (YP.length : Int) < 0) = false := decide_eq_false (by omega)
    go_upto_region 24 with (first
      | (go_at_call 27; have g1 := mk1; refine (markLend_any 1 lv11 (by omega) (by omega) (by omega) (by omega) (by omega)).mono ?_; rintro e v7 ⟨rfl, lm11, ho7⟩; have hbw := hbw.trans (ho7.below (fun g hg => (by have := u11 g hg; omega)) (by omega)); have C : Hid (Cells v7 [(b8, 0, .slice u81 n81 c81), (b8, 1, .slice u82 n82 c82), (b8, 2, .slice u83 n83 c83), (b11, 0, .slice u111 n111 c111), (b11, 1, .slice u112 n112 c112), (b11, 2, .slice u113 n113 c113)]) := Cells.onlyP ho7 (by intro c hc e; simp only [List.mem_cons, List.not_mem_nil, or_false] at hc; have u := u11 _ e; rcases hc with rfl | rfl | rfl | rfl | rfl | rfl <;> (simp only at u; omega)) C.out; have ⟨⟨kz0, k0⟩, ⟨kz1, k1⟩, ⟨kz2, k2⟩, ⟨kz3, k3⟩, ⟨kz4, k4⟩, ⟨kz5, k5⟩, _⟩ := C.out; have lv8 := lv8.onlyP ho7 (fun g hg e => (by have := u8 g (.inl hg); have := u11 g e; omega)) (fun g hg e => (by have := u8 g (.inr (.inl hg)); have := u11 g e; omega)) (fun g hg e => (by have := u8 g (.inr (.inr hg)); have := u11 g e; omega)); have mk2 := ho7; have zw := hbw.size)
      | (go_at_call 15; refine (markClassS_v (1) qx hsC (by omega) (by omega)).mono ?_; rintro e v6s ⟨rfl, qmx, ho6s⟩; have ho6p := OnlyP.of ho6s; have hbw := hbw.trans (ho6p.below (fun g hg => (by have := us g hg; omega)) (by omega)); have C : Hid (Cells v6s [(b8, 0, .slice u81 n81 c81), (b8, 1, .slice u82 n82 c82), (b8, 2, .slice u83 n83 c83), (b11, 0, .slice u111 n111 c111), (b11, 1, .slice u112 n112 c112), (b11, 2, .slice u113 n113 c113)]) := Cells.onlyP ho6p (by intro c hc e; simp only [List.mem_cons, List.not_mem_nil, or_false] at hc; have u := us _ e; rcases hc with rfl | rfl | rfl | rfl | rfl | rfl <;> (simp only at u; omega)) C.out; have ⟨⟨kz0, k0⟩, ⟨kz1, k1⟩, ⟨kz2, k2⟩, ⟨kz3, k3⟩, ⟨kz4, k4⟩, ⟨kz5, k5⟩, _⟩ := C.out; have lv8 := lv8.onlyP ho6p (fun g hg e => (by have := u8 g (.inl hg); have := us g e; omega)) (fun g hg e => (by have := u8 g (.inr (.inl hg)); have := us g e; omega)) (fun g hg e => (by have := u8 g (.inr (.inr hg)); have := us g e; omega)); have lv11 := lv11.onlyP ho6p (fun g hg e => (by have := u11 g (.inl hg); have := us g e; omega)) (fun g hg e => (by have := u11 g (.inr (.inl hg)); have := us g e; omega)) (fun g hg e => (by have := u11 g (.inr (.inr hg)); have := us g e; omega)); have mk1 := ho6s; have zw := hbw.size)
      | (go_at_call 28; have g1 := mk2; refine (heldLend_any 1 lm11 (by omega) (by omega) (by omega) (by omega) (by omega)).mono ?_; rintro e v8 ⟨rfl, hb8⟩; have hbw := below_step (w := w) (by go_grown) hb8; have C : Hid (Cells v8 [(b8, 0, .slice u81 n81 c81), (b8, 1, .slice u82 n82 c82), (b8, 2, .slice u83 n83 c83), (b11, 0, .slice u111 n111 c111), (b11, 1, .slice u112 n112 c112), (b11, 2, .slice u113 n113 c113)]) := C.out.next (below_step (by go_grown) hb8); have ⟨⟨kz0, k0⟩, ⟨kz1, k1⟩, ⟨kz2, k2⟩, ⟨kz3, k3⟩, ⟨kz4, k4⟩, ⟨kz5, k5⟩, _⟩ := C.out; have lv8 := lv8.next (below_step (by go_grown) hb8); have lm11 := lm11.next (below_step (by go_grown) hb8); have zw := hbw.size)
      | (go_at_call 26; refine (eqLV lv11 lv8 (by omega) (by omega) (by omega)).mono ?_; rintro e v6e ⟨rfl, hbE⟩; have hbw := below_step (w := w) (by go_grown) hbE; have C : Hid (Cells v6e [(b8, 0, .slice u81 n81 c81), (b8, 1, .slice u82 n82 c82), (b8, 2, .slice u83 n83 c83), (b11, 0, .slice u111 n111 c111), (b11, 1, .slice u112 n112 c112), (b11, 2, .slice u113 n113 c113)]) := C.out.next (below_step (by go_grown) hbE); have ⟨⟨kz0, k0⟩, ⟨kz1, k1⟩, ⟨kz2, k2⟩, ⟨kz3, k3⟩, ⟨kz4, k4⟩, ⟨kz5, k5⟩, _⟩ := C.out; have lv8 := lv8.next (below_step (by go_grown) hbE); have lv11 := lv11.next (below_step (by go_grown) hbE); have zw := hbw.size; have zE := hbE.size))
    go_upto_region 25 with (first
      | (go_at_call 11; refine (toClassS_any cap0 (hs0.here (by go_grown)) hsC).mono ?_; rintro e vR ⟨gq, rfl, hgq0, hgq1, fgq, hbS⟩; have hbw := below_step (w := w) (by go_grown) hbS; have C : Hid (Cells vR [(b8, 0, .slice u81 n81 c81), (b8, 1, .slice u82 n82 c82), (b8, 2, .slice u83 n83 c83), (b11, 0, .slice u111 n111 c111), (b11, 1, .slice u112 n112 c112), (b11, 2, .slice u113 n113 c113)]) := C.out.next (below_step (by go_grown) hbS); have ⟨⟨kz0, k0⟩, ⟨kz1, k1⟩, ⟨kz2, k2⟩, ⟨kz3, k3⟩, ⟨kz4, k4⟩, ⟨kz5, k5⟩, _⟩ := C.out; have lv8 := lv8.next (below_step (by go_grown) hbS); have lm11 := lm11.next (below_step (by go_grown) hbS); have zw := hbw.size; have zS := hbS.size; (try simp at hgq0))
      | (go_at_call 25; refine (HIM.out _ _ xs0.length  (fgq.quad hgq1)).mono ?_; rintro e vH ⟨u161, n161, c161, u162, n162, c162, u163, n163, c163, rfl, hlv, hbP⟩; have hbw := below_step (w := w) (by go_grown) hbP; have C : Hid (Cells vH [(b8, 0, .slice u81 n81 c81), (b8, 1, .slice u82 n82 c82), (b8, 2, .slice u83 n83 c83), (b11, 0, .slice u111 n111 c111), (b11, 1, .slice u112 n112 c112), (b11, 2, .slice u113 n113 c113)]) := C.out.next (below_step (by go_grown) hbP); have ⟨⟨kz0, k0⟩, ⟨kz1, k1⟩, ⟨kz2, k2⟩, ⟨kz3, k3⟩, ⟨kz4, k4⟩, ⟨kz5, k5⟩, _⟩ := C.out; have lv8 := lv8.next (below_step (by go_grown) hbP); have lm11 := lm11.next (below_step (by go_grown) hbP); have zw := hbw.size; have zP := hbP.size))
    obtain ⟨v9, hv⟩ : ∃ v, v = vH.alloc (.cells #[.slice u161 n161 c161, .slice u162 n162 c162, .slice u163 n163 c163] 38) := ⟨_, rfl⟩
    rw [← hv]
    have hbA : Below vH.heap.size vH v9 := by rw [hv]; exact new_below _ _
    have cA0 : v9.cell? ⟨vH.heap.size, 0, none⟩ = some (.slice u161 n161 c161) := by rw [hv]; go_simp
    have cA1 : v9.cell? ⟨vH.heap.size, 1, none⟩ = some (.slice u162 n162 c162) := by rw [hv]; go_simp
    have cA2 : v9.cell? ⟨vH.heap.size, 2, none⟩ = some (.slice u163 n163 c163) := by rw [hv]; go_simp
    have zA : vH.heap.size < v9.heap.size := by rw [hv]; simp
    clear hv
    obtain ⟨b16, hb16⟩ : ∃ b, b = vH.heap.size := ⟨_, rfl⟩
    rw [← hb16] at cA0 cA1 cA2 ⊢
    have yb16 : b16 < v9.heap.size := by omega
    have lb16 : vH.heap.size ≤ b16 ∧ b16 ≤ vH.heap.size := by omega
    clear hb16
    have hbw := below_step hbw hbA
    have C : Hid (Cells v9 [(b8, 0, .slice u81 n81 c81), (b8, 1, .slice u82 n82 c82), (b8, 2, .slice u83 n83 c83), (b11, 0, .slice u111 n111 c111), (b11, 1, .slice u112 n112 c112), (b11, 2, .slice u113 n113 c113), (b16, 0, .slice u161 n161 c161), (b16, 1, .slice u162 n162 c162), (b16, 2, .slice u163 n163 c163)]) := by
      obtain ⟨c0, c1, c2, c3, c4, c5, _⟩ := C.out.next hbA
      exact ⟨c0, c1, c2, c3, c4, c5, ⟨yb16, cA0⟩, ⟨yb16, cA1⟩, ⟨yb16, cA2⟩, trivial⟩
    have ⟨⟨kz0, k0⟩, ⟨kz1, k1⟩, ⟨kz2, k2⟩, ⟨kz3, k3⟩, ⟨kz4, k4⟩, ⟨kz5, k5⟩, ⟨kz6, k6⟩, ⟨kz7, k7⟩, ⟨kz8, k8⟩, _⟩ := C.out
    have lv8 := lv8.next hbA
    have lm11 := lm11.next hbA
    have zw := hbw.size
    have lv16 := hlv.next hbA
    go_wp2_with (first
      | (go_at_call 28; refine (heldLend_any 1 lm11 (by omega) (by omega) (by omega) (by omega) (by omega)).mono ?_; rintro e v11 ⟨rfl, hb11⟩; have hbw := below_step (w := w) (by go_grown) hb11; have C : Hid (Cells v11 [(b8, 0, .slice u81 n81 c81), (b8, 1, .slice u82 n82 c82), (b8, 2, .slice u83 n83 c83), (b11, 0, .slice u111 n111 c111), (b11, 1, .slice u112 n112 c112), (b11, 2, .slice u113 n113 c113), (b16, 0, .slice u161 n161 c161), (b16, 1, .slice u162 n162 c162), (b16, 2, .slice u163 n163 c163)]) := C.out.next (below_step (by go_grown) hb11); have ⟨⟨kz0, k0⟩, ⟨kz1, k1⟩, ⟨kz2, k2⟩, ⟨kz3, k3⟩, ⟨kz4, k4⟩, ⟨kz5, k5⟩, ⟨kz6, k6⟩, ⟨kz7, k7⟩, ⟨kz8, k8⟩, _⟩ := C.out; have lv8 := lv8.next (below_step (by go_grown) hb11); have zw := hbw.size)
      | (go_at_call 26; refine (eqLV lv16 lv8 (by omega) (by omega) (by omega)).mono ?_; rintro e v10 ⟨rfl, hbE⟩; have hbw := below_step (w := w) (by go_grown) hbE; have C : Hid (Cells v10 [(b8, 0, .slice u81 n81 c81), (b8, 1, .slice u82 n82 c82), (b8, 2, .slice u83 n83 c83), (b11, 0, .slice u111 n111 c111), (b11, 1, .slice u112 n112 c112), (b11, 2, .slice u113 n113 c113), (b16, 0, .slice u161 n161 c161), (b16, 1, .slice u162 n162 c162), (b16, 2, .slice u163 n163 c163)]) := C.out.next (below_step (by go_grown) hbE); have ⟨⟨kz0, k0⟩, ⟨kz1, k1⟩, ⟨kz2, k2⟩, ⟨kz3, k3⟩, ⟨kz4, k4⟩, ⟨kz5, k5⟩, ⟨kz6, k6⟩, ⟨kz7, k7⟩, ⟨kz8, k8⟩, _⟩ := C.out; have lv8 := lv8.next (below_step (by go_grown) hbE); have lm11 := lm11.next (below_step (by go_grown) hbE); have lv16 := lv16.next (below_step (by go_grown) hbE); have zw := hbw.size; have zE := hbE.size))
    go_ret
    exact ⟨rfl, hbw⟩
  · have hz : (if xs0.length ≤ 1048576 then 1048576 - (xs0.length : Int) else -1) = -1 := if_neg hsC
    go_enter Try.func7, Try.ntmps7
    go_wp2_with (first | (go_at_call 9; refine (szClassS_any _ _ _ _ hl).mono ?_; rintro e v1 ⟨rfl, rfl⟩; rw [hz]))
    go_ret
    exact ⟨rfl, Below.refl _ _⟩

/-! ### THE ROW's STEP -/
set_option maxRecDepth 100000 in
theorem lifted (os : Os) (started : os.Started) (H : Type) (enc : TypeId × Value → H) :
    ReturnsInHanded {} Try.checked os 7 .any (Rows.fnExactNewLendSpec.pre6 enc Try.prog Try.f7 Rows.fnExactNewLendRow.domain false) (Rows.fnExactNewLendSpec.post enc Try.prog Try.f7 false true false false) := by
  refine returnsInHanded_of_change (C := Try.checked) own started (by kernel_rfl) Try.func7
    (ChangeSpec.witness6 (enc := enc) (C := Try.checked) false ⟨#[], #[.slice none 0 0, .int .i64 0], []⟩ 8 (by kernel_rfl) (by kernel_rfl) (by kernel_rfl) (by kernel_rfl)) ?_
  intro W base args ds gs before hval0 hW hcnd _
  have hval : ∀ (j : Nat) t v, Try.f7.params[j]? = some t → args[j]? = some v → Value.okWide Try.prog W .any base t v := hval0
  have hW' := hW
  have hlt := hW'.lt
  obtain ⟨p, q, hA0, hV, rfl, hfz, hnd⟩ := hW
  have hA : DataW.TrodAll enc Try.prog W 0 (fun _ => true) true Try.f7.params.toList args.toList ds p := hA0
  rw [Try.params7] at hA hval
  have hR := hA
  obtain ⟨v0, vs0, d0, ds0, p0, q0, hargs, rfl, rfl, h0, r0⟩ := trodAll_cons hA
  obtain ⟨v1, vs1, d1, ds1, p1, q1, rfl, rfl, rfl, h1, r1⟩ := trodAll_cons r0
  obtain ⟨rfl, rfl, rfl⟩ := trodAll_nil r1
  obtain rfl : args = #[v0, v1] := by cases args; simp_all
  obtain ⟨rfl, rfl⟩ := trodVars_none hV
  obtain ⟨a0, cap0, xs0, rfl, hs0, hi0, hn0, hc0, hm0⟩ := open_classS (hval 0 22 v0 rfl rfl) h0
  obtain ⟨a1, rfl, rfl, rfl, w1⟩ := open_int Try.underlying2 (hval 1 2 v1 rfl rfl) h1
  clear hA0 hval0
  refine (walk W a0 cap0 xs0 hs0 hi0 hn0 hc0 hm0 a1 w1).mono fun e W' ⟨he, hg⟩ => ?_
  subst he
  exact ⟨_, rfl, _, _, _, [], _, [], hW', (trodAll_cons_mk (shut_bool Try.underlying4 _) trodAll_mk0), trodAll_after table_ok hg (by decide) hR (fun x hx => hlt x (List.mem_append.2 (.inl hx))), rfl, hg.frame _, fun h => by cases h⟩

theorem over : Rows.fnExactNewLendRow.holds Try.pinned (OpenSpec.ofChange Rows.fnExactNewLendSpec) :=
  OpenClaim.holds_of_wide 7 Try.f7 rfl rfl rfl rfl rfl rfl rfl ⟨rfl, rfl, rfl, rfl, rfl⟩ rfl rfl rfl rfl rfl (by kernel_rfl) Try.func7 (by kernel_rfl)
    (of_decide_eq_true (by kernel_rfl)) (by unfold Func.isWrapper; first | (rw [if_pos (by decide +kernel)]; kernel_rfl) | (rw [if_neg (by decide +kernel)]; exact ⟨rfl, rfl⟩))
    (fun os started H enc _ => lifted os started H enc)

theorem proved : Rows.FnExactNewLendSaid := over
#print axioms proved
end Go.Proofs.Ytcepopboldnical.fnExactNewLend
namespace Go.Proofs.Ytcepopboldnical
theorem fnExactNewLend_holds : Rows.FnExactNewLendSaid := fnExactNewLend.proved
#print axioms fnExactNewLend_holds
end Go.Proofs.Ytcepopboldnical
