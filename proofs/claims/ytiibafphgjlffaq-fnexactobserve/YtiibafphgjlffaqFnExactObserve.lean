/- Proved: at every Probe and numbers impl.Observe answers as spec.Observe does, writes nothing into its arguments, and its answer owns its memory (the law FnExactObserve returns true and its arguments read as before); no condition. -/
import Derived.Test.YtiibafphgjlffaqRows
import Derived.WalkKit
import Derived.ProofKit
import Derived.OpenShut
import Derived.ShutString
import Derived.Below
import Derived.Laws.Cover2
import Derived.Test.YtiibafphgjlffaqObsBoth
import Derived.Test.YtiibafphgjlffaqPrbVar
import Derived.Test.YtiibafphgjlffaqPrbTo
import Derived.Deep.RegionHeld3
namespace Go.Proofs.Ytiibafphgjlffaq.fnExactObserve
open Go.ChangeShapes Go.WideShapes Go.ChangeAt Go.RowKit
set_option linter.unusedVariables false

theorem own : ownKnob Try.prog.godebug = none := by kernel_rfl

set_option linter.unusedSimpArgs false
set_option linter.unusedVariables false
set_option maxRecDepth 100000

/-! ### STEP 1: the walk -/
set_option maxHeartbeats 16000000 in
theorem walk (w : World) (sa0 cy0 sn0 tp0 sv0 mt0 ta0 : Int) (a0 : Option Addr) (cap0 : Nat) (xs0 : List (Int × Int)) (isa0 : I64 sa0) (icy0 : I64 cy0) (isn0 : I64 sn0) (itp0 : I64 tp0) (isv0 : I64 sv0) (imt0 : I64 mt0) (ita0 : I64 ta0) (hs0 : Smp w.heap.size w a0 xs0) (hi0 : ∀ x ∈ xs0, I64 x.1 ∧ I64 x.2) (hn0 : a0 = none → xs0 = [] ∧ cap0 = 0) (hc0 : xs0.length ≤ cap0) (hm0 : cap0 ≤ maxLen) (a1 : Int) (w1 : (Lit.int .i64 a1).wf = true) (a2 : Int) (w2 : (Lit.int .i64 a2).wf = true) (a3 : Int) (w3 : (Lit.int .i64 a3).wf = true) (a4 : Int) (w4 : (Lit.int .i64 a4).wf = true) :
    Calls Try.prog 7 #[.agg #[.int .i64 sa0, .int .i64 cy0, .int .i64 sn0, .int .i64 tp0, .int .i64 sv0, .slice a0 xs0.length cap0, .int .i64 mt0, .int .i64 ta0], .int .i64 a1, .int .i64 a2, .int .i64 a3, .int .i64 a4] w fun e w' => e = .returned (.bool true) ∧ Below w.heap.size w w' := by
  have hl : (xs0.length : Int) ≤ 9223372036854775807 := by unfold maxLen at hm0; omega
  by_cases hs : xs0.length ≤ 1048576
  · have hz : (if xs0.length ≤ 1048576 then 1048576 - (xs0.length : Int) else -1) = 1048576 - (xs0.length : Int) := if_pos hs
    have hz' : (0 : Int) ≤ 1048576 - (xs0.length : Int) := by omega
    have DP0 : Hid (Pc (w.alloc (.cells #[.int .i64 sa0, .int .i64 cy0, .int .i64 sn0, .int .i64 tp0, .int .i64 sv0, .slice a0 xs0.length cap0, .int .i64 mt0, .int .i64 ta0] 36)) w.heap.size (⟨sa0, cy0, sn0, tp0, sv0, mt0, ta0⟩ : Pb) (.slice a0 xs0.length cap0)) := pc_new w (⟨sa0, cy0, sn0, tp0, sv0, mt0, ta0⟩ : Pb) _ _
    obtain ⟨ys, ⟨za, zc, zn, zt, zv, zm, zr⟩, hys, _, _, hsp, him⟩ := observes sa0 cy0 sn0 tp0 sv0 mt0 ta0 a1 a2 a3 a4 xs0
    have HSP : Hid (∀ (w : World) (a : Option Addr) (cap : Nat), Smp w.heap.size w a xs0 → Calls Try.prog 22 #[.agg #[.int .i64 sa0, .int .i64 cy0, .int .i64 sn0, .int .i64 tp0, .int .i64 sv0, .slice a xs0.length cap, .int .i64 mt0, .int .i64 ta0], .int .i64 a1, .int .i64 a2, .int .i64 a3, .int .i64 a4] w (AnsPost w ys ⟨za, zc, zn, zt, zv, zm, zr⟩)) := hsp
    have HIM : Hid (∀ (w : World) (a : Option Addr) (cap : Nat), Smp w.heap.size w a xs0 → xs0.length ≤ cap → (a = none → cap = 0) → Calls Try.prog 23 #[.agg #[.int .i64 sa0, .int .i64 cy0, .int .i64 sn0, .int .i64 tp0, .int .i64 sv0, .slice a xs0.length cap, .int .i64 mt0, .int .i64 ta0], .int .i64 a1, .int .i64 a2, .int .i64 a3, .int .i64 a4] w (AnsPost w ys ⟨za, zc, zn, zt, zv, zm, zr⟩)) := him
    clear hsp him
    have hkb : decide (1 + 2 * (xs0.length : Int) < 0) = false := decide_eq_false (by omega)
    have hkc : decide (1 + 2 * (ys.length : Int) < 0) = false := decide_eq_false (by omega)
    go_enter Try.func7, Try.ntmps7
    go_upto_region 6 with (first
      | (go_at_call 14; refine (szProbe_any _ _ _ _ hl).mono ?_; rintro e v1 ⟨rfl, hb1⟩; rw [hz]; have hbw : Below w.heap.size w v1 := below_two (by go_grown) hb1; have DP : Hid (Pc v1 (w.heap.size) (⟨sa0, cy0, sn0, tp0, sv0, mt0, ta0⟩ : Pb) (.slice a0 xs0.length cap0)) := DP0.out.next hb1; have p0 : v1.cell? ⟨w.heap.size, 0, none⟩ = some (.int .i64 sa0) := DP.out.c0; have p1 : v1.cell? ⟨w.heap.size, 1, none⟩ = some (.int .i64 cy0) := DP.out.c1; have p2 : v1.cell? ⟨w.heap.size, 2, none⟩ = some (.int .i64 sn0) := DP.out.c2; have p3 : v1.cell? ⟨w.heap.size, 3, none⟩ = some (.int .i64 tp0) := DP.out.c3; have p4 : v1.cell? ⟨w.heap.size, 4, none⟩ = some (.int .i64 sv0) := DP.out.c4; have p5 : v1.cell? ⟨w.heap.size, 5, none⟩ = some (.slice a0 xs0.length cap0) := DP.out.c5; have p6 : v1.cell? ⟨w.heap.size, 6, none⟩ = some (.int .i64 mt0) := DP.out.c6; have p7 : v1.cell? ⟨w.heap.size, 7, none⟩ = some (.int .i64 ta0) := DP.out.c7)
      | (go_at_call 16; refine (toProbe_any cap0 (hs0.here hbw) hs).mono ?_; rintro e v2 ⟨g2, rfl, g20, g21, f2, hb2⟩; have hbw : Below w.heap.size w v2 := below_two hbw hb2; clear p0 p1 p2 p3 p4 p5 p6 p7; have DP : Hid (Pc v2 (w.heap.size) (⟨sa0, cy0, sn0, tp0, sv0, mt0, ta0⟩ : Pb) (.slice a0 xs0.length cap0)) := DP.out.next hb2; have p0 : v2.cell? ⟨w.heap.size, 0, none⟩ = some (.int .i64 sa0) := DP.out.c0; have p1 : v2.cell? ⟨w.heap.size, 1, none⟩ = some (.int .i64 cy0) := DP.out.c1; have p2 : v2.cell? ⟨w.heap.size, 2, none⟩ = some (.int .i64 sn0) := DP.out.c2; have p3 : v2.cell? ⟨w.heap.size, 3, none⟩ = some (.int .i64 tp0) := DP.out.c3; have p4 : v2.cell? ⟨w.heap.size, 4, none⟩ = some (.int .i64 sv0) := DP.out.c4; have p5 : v2.cell? ⟨w.heap.size, 5, none⟩ = some (.slice a0 xs0.length cap0) := DP.out.c5; have p6 : v2.cell? ⟨w.heap.size, 6, none⟩ = some (.int .i64 mt0) := DP.out.c6; have p7 : v2.cell? ⟨w.heap.size, 7, none⟩ = some (.int .i64 ta0) := DP.out.c7; have sm2 := f2.smp g21)
      | (go_at_call 22; refine (HSP.out _ _ _ sm2).mono ?_; rintro e v3 ⟨a12, n12, c12, rfl, fv12, hb3⟩; have hbw : Below w.heap.size w v3 := below_two hbw hb3; clear p0 p1 p2 p3 p4 p5 p6 p7; have DP : Hid (Pc v3 (w.heap.size) (⟨sa0, cy0, sn0, tp0, sv0, mt0, ta0⟩ : Pb) (.slice a0 xs0.length cap0)) := DP.out.next hb3; have p0 : v3.cell? ⟨w.heap.size, 0, none⟩ = some (.int .i64 sa0) := DP.out.c0; have p1 : v3.cell? ⟨w.heap.size, 1, none⟩ = some (.int .i64 cy0) := DP.out.c1; have p2 : v3.cell? ⟨w.heap.size, 2, none⟩ = some (.int .i64 sn0) := DP.out.c2; have p3 : v3.cell? ⟨w.heap.size, 3, none⟩ = some (.int .i64 tp0) := DP.out.c3; have p4 : v3.cell? ⟨w.heap.size, 4, none⟩ = some (.int .i64 sv0) := DP.out.c4; have p5 : v3.cell? ⟨w.heap.size, 5, none⟩ = some (.slice a0 xs0.length cap0) := DP.out.c5; have p6 : v3.cell? ⟨w.heap.size, 6, none⟩ = some (.int .i64 mt0) := DP.out.c6; have p7 : v3.cell? ⟨w.heap.size, 7, none⟩ = some (.int .i64 ta0) := DP.out.c7))
    have u12 : ∀ g, (Value.slice a12 n12 c12).ownBlock = some g → v2.heap.size ≤ g ∧ g < v3.heap.size := fun g hg => fv12.own hg
    obtain ⟨v3b, hv3b⟩ : ∃ x, x = v3.alloc (.cells #[.int .i64 za, .int .i64 zc, .int .i64 zn, .int .i64 zt, .int .i64 zv, .slice a12 n12 c12, .int .i64 zm, .int .i64 zr] 26) := ⟨_, rfl⟩
    obtain ⟨b12, eb12⟩ : ∃ b, b = v3.heap.size := ⟨_, rfl⟩
    rw [← hv3b, ← eb12]
    have yb12 : v3.heap.size ≤ b12 := by omega
    have ub12 : b12 < v3b.heap.size := by rw [hv3b, eb12]; simp
    have kv3b : Below v3.heap.size v3 v3b := by rw [hv3b]; exact new_below _ _
    have DA : Hid (Pc v3b (b12) (⟨za, zc, zn, zt, zv, zm, zr⟩ : Pb) (.slice a12 n12 c12)) := by rw [hv3b, eb12]; exact pc_new _ (⟨za, zc, zn, zt, zv, zm, zr⟩ : Pb) _ _
    clear hv3b eb12
    have hbw : Below w.heap.size w v3b := below_two hbw kv3b; clear p0 p1 p2 p3 p4 p5 p6 p7
    have DP : Hid (Pc v3b (w.heap.size) (⟨sa0, cy0, sn0, tp0, sv0, mt0, ta0⟩ : Pb) (.slice a0 xs0.length cap0)) := DP.out.next kv3b
    have p0 : v3b.cell? ⟨w.heap.size, 0, none⟩ = some (.int .i64 sa0) := DP.out.c0
    have p1 : v3b.cell? ⟨w.heap.size, 1, none⟩ = some (.int .i64 cy0) := DP.out.c1
    have p2 : v3b.cell? ⟨w.heap.size, 2, none⟩ = some (.int .i64 sn0) := DP.out.c2
    have p3 : v3b.cell? ⟨w.heap.size, 3, none⟩ = some (.int .i64 tp0) := DP.out.c3
    have p4 : v3b.cell? ⟨w.heap.size, 4, none⟩ = some (.int .i64 sv0) := DP.out.c4
    have p5 : v3b.cell? ⟨w.heap.size, 5, none⟩ = some (.slice a0 xs0.length cap0) := DP.out.c5
    have p6 : v3b.cell? ⟨w.heap.size, 6, none⟩ = some (.int .i64 mt0) := DP.out.c6
    have p7 : v3b.cell? ⟨w.heap.size, 7, none⟩ = some (.int .i64 ta0) := DP.out.c7
    have fv12 := fv12.next kv3b
    have q0 : v3b.cell? ⟨b12, 0, none⟩ = some (.int .i64 za) := DA.out.c0
    have q1 : v3b.cell? ⟨b12, 1, none⟩ = some (.int .i64 zc) := DA.out.c1
    have q2 : v3b.cell? ⟨b12, 2, none⟩ = some (.int .i64 zn) := DA.out.c2
    have q3 : v3b.cell? ⟨b12, 3, none⟩ = some (.int .i64 zt) := DA.out.c3
    have q4 : v3b.cell? ⟨b12, 4, none⟩ = some (.int .i64 zv) := DA.out.c4
    have q5 : v3b.cell? ⟨b12, 5, none⟩ = some (.slice a12 n12 c12) := DA.out.c5
    have q6 : v3b.cell? ⟨b12, 6, none⟩ = some (.int .i64 zm) := DA.out.c6
    have q7 : v3b.cell? ⟨b12, 7, none⟩ = some (.int .i64 zr) := DA.out.c7
    have wz : w.heap.size < v3b.heap.size := DP.out.z
    have zs3 := kv3b.size
    go_upto_region 7 with (first
      | (go_at_call 16; refine (toProbe_any cap0 (hs0.here hbw) hs).mono ?_; rintro e v4 ⟨gx, rfl, gx0, gx1, fx, hb4⟩; have hbw : Below w.heap.size w v4 := below_two hbw hb4; clear p0 p1 p2 p3 p4 p5 p6 p7; have DP : Hid (Pc v4 (w.heap.size) (⟨sa0, cy0, sn0, tp0, sv0, mt0, ta0⟩ : Pb) (.slice a0 xs0.length cap0)) := DP.out.next hb4; have p0 : v4.cell? ⟨w.heap.size, 0, none⟩ = some (.int .i64 sa0) := DP.out.c0; have p1 : v4.cell? ⟨w.heap.size, 1, none⟩ = some (.int .i64 cy0) := DP.out.c1; have p2 : v4.cell? ⟨w.heap.size, 2, none⟩ = some (.int .i64 sn0) := DP.out.c2; have p3 : v4.cell? ⟨w.heap.size, 3, none⟩ = some (.int .i64 tp0) := DP.out.c3; have p4 : v4.cell? ⟨w.heap.size, 4, none⟩ = some (.int .i64 sv0) := DP.out.c4; have p5 : v4.cell? ⟨w.heap.size, 5, none⟩ = some (.slice a0 xs0.length cap0) := DP.out.c5; have p6 : v4.cell? ⟨w.heap.size, 6, none⟩ = some (.int .i64 mt0) := DP.out.c6; have p7 : v4.cell? ⟨w.heap.size, 7, none⟩ = some (.int .i64 ta0) := DP.out.c7; clear q0 q1 q2 q3 q4 q5 q6 q7; have DA : Hid (Pc v4 (b12) (⟨za, zc, zn, zt, zv, zm, zr⟩ : Pb) (.slice a12 n12 c12)) := DA.out.next hb4; have q0 : v4.cell? ⟨b12, 0, none⟩ = some (.int .i64 za) := DA.out.c0; have q1 : v4.cell? ⟨b12, 1, none⟩ = some (.int .i64 zc) := DA.out.c1; have q2 : v4.cell? ⟨b12, 2, none⟩ = some (.int .i64 zn) := DA.out.c2; have q3 : v4.cell? ⟨b12, 3, none⟩ = some (.int .i64 zt) := DA.out.c3; have q4 : v4.cell? ⟨b12, 4, none⟩ = some (.int .i64 zv) := DA.out.c4; have q5 : v4.cell? ⟨b12, 5, none⟩ = some (.slice a12 n12 c12) := DA.out.c5; have q6 : v4.cell? ⟨b12, 6, none⟩ = some (.int .i64 zm) := DA.out.c6; have q7 : v4.cell? ⟨b12, 7, none⟩ = some (.int .i64 zr) := DA.out.c7; have fv12 := fv12.next hb4))
    have fvx : FV v4 v3b.heap.size (.slice (some ⟨gx, 0, none⟩) xs0.length xs0.length) xs0 := .inl ⟨gx, _, rfl, gx0, gx1, fx, Nat.le_refl _⟩
    have sx := fx.smp gx1
    obtain ⟨v5, hv5⟩ : ∃ x, x = v4.alloc (.cells #[.int .i64 sa0, .int .i64 cy0, .int .i64 sn0, .int .i64 tp0, .int .i64 sv0, .slice (some ⟨gx, 0, none⟩) xs0.length xs0.length, .int .i64 mt0, .int .i64 ta0] 26) := ⟨_, rfl⟩
    obtain ⟨bx, ebx⟩ : ∃ b, b = v4.heap.size := ⟨_, rfl⟩
    rw [← hv5, ← ebx]
    have ybx : v4.heap.size ≤ bx := by omega
    have ubx : bx < v5.heap.size := by rw [hv5, ebx]; simp
    have kv5 : Below v4.heap.size v4 v5 := by rw [hv5]; exact new_below _ _
    have DX : Hid (Pc v5 (bx) (⟨sa0, cy0, sn0, tp0, sv0, mt0, ta0⟩ : Pb) (.slice (some ⟨gx, 0, none⟩) xs0.length xs0.length)) := by rw [hv5, ebx]; exact pc_new _ (⟨sa0, cy0, sn0, tp0, sv0, mt0, ta0⟩ : Pb) _ _
    clear hv5 ebx
    have hbw : Below w.heap.size w v5 := below_two hbw kv5; clear p0 p1 p2 p3 p4 p5 p6 p7
    have DP : Hid (Pc v5 (w.heap.size) (⟨sa0, cy0, sn0, tp0, sv0, mt0, ta0⟩ : Pb) (.slice a0 xs0.length cap0)) := DP.out.next kv5
    have p0 : v5.cell? ⟨w.heap.size, 0, none⟩ = some (.int .i64 sa0) := DP.out.c0
    have p1 : v5.cell? ⟨w.heap.size, 1, none⟩ = some (.int .i64 cy0) := DP.out.c1
    have p2 : v5.cell? ⟨w.heap.size, 2, none⟩ = some (.int .i64 sn0) := DP.out.c2
    have p3 : v5.cell? ⟨w.heap.size, 3, none⟩ = some (.int .i64 tp0) := DP.out.c3
    have p4 : v5.cell? ⟨w.heap.size, 4, none⟩ = some (.int .i64 sv0) := DP.out.c4
    have p5 : v5.cell? ⟨w.heap.size, 5, none⟩ = some (.slice a0 xs0.length cap0) := DP.out.c5
    have p6 : v5.cell? ⟨w.heap.size, 6, none⟩ = some (.int .i64 mt0) := DP.out.c6
    have p7 : v5.cell? ⟨w.heap.size, 7, none⟩ = some (.int .i64 ta0) := DP.out.c7; clear q0 q1 q2 q3 q4 q5 q6 q7
    have DA : Hid (Pc v5 (b12) (⟨za, zc, zn, zt, zv, zm, zr⟩ : Pb) (.slice a12 n12 c12)) := DA.out.next kv5
    have q0 : v5.cell? ⟨b12, 0, none⟩ = some (.int .i64 za) := DA.out.c0
    have q1 : v5.cell? ⟨b12, 1, none⟩ = some (.int .i64 zc) := DA.out.c1
    have q2 : v5.cell? ⟨b12, 2, none⟩ = some (.int .i64 zn) := DA.out.c2
    have q3 : v5.cell? ⟨b12, 3, none⟩ = some (.int .i64 zt) := DA.out.c3
    have q4 : v5.cell? ⟨b12, 4, none⟩ = some (.int .i64 zv) := DA.out.c4
    have q5 : v5.cell? ⟨b12, 5, none⟩ = some (.slice a12 n12 c12) := DA.out.c5
    have q6 : v5.cell? ⟨b12, 6, none⟩ = some (.int .i64 zm) := DA.out.c6
    have q7 : v5.cell? ⟨b12, 7, none⟩ = some (.int .i64 zr) := DA.out.c7
    have fv12 := fv12.next kv5
    have fvx := fvx.next kv5
    have xx0 : v5.cell? ⟨bx, 0, none⟩ = some (.int .i64 sa0) := DX.out.c0
    have xx1 : v5.cell? ⟨bx, 1, none⟩ = some (.int .i64 cy0) := DX.out.c1
    have xx2 : v5.cell? ⟨bx, 2, none⟩ = some (.int .i64 sn0) := DX.out.c2
    have xx3 : v5.cell? ⟨bx, 3, none⟩ = some (.int .i64 tp0) := DX.out.c3
    have xx4 : v5.cell? ⟨bx, 4, none⟩ = some (.int .i64 sv0) := DX.out.c4
    have xx5 : v5.cell? ⟨bx, 5, none⟩ = some (.slice (some ⟨gx, 0, none⟩) xs0.length xs0.length) := DX.out.c5
    have xx6 : v5.cell? ⟨bx, 6, none⟩ = some (.int .i64 mt0) := DX.out.c6
    have xx7 : v5.cell? ⟨bx, 7, none⟩ = some (.int .i64 ta0) := DX.out.c7
    have sx := sx.here kv5
    have zs5 := kv5.size
    go_upto_region 8 with (first
      | (go_at_call 23; refine (HIM.out _ _ _ sx (Nat.le_refl _) (by intro e; cases e)).mono ?_; rintro e v6 ⟨a14, n14, c14, rfl, fv14, hb6⟩; have hbw : Below w.heap.size w v6 := below_two hbw hb6; clear p0 p1 p2 p3 p4 p5 p6 p7; have DP : Hid (Pc v6 (w.heap.size) (⟨sa0, cy0, sn0, tp0, sv0, mt0, ta0⟩ : Pb) (.slice a0 xs0.length cap0)) := DP.out.next hb6; have p0 : v6.cell? ⟨w.heap.size, 0, none⟩ = some (.int .i64 sa0) := DP.out.c0; have p1 : v6.cell? ⟨w.heap.size, 1, none⟩ = some (.int .i64 cy0) := DP.out.c1; have p2 : v6.cell? ⟨w.heap.size, 2, none⟩ = some (.int .i64 sn0) := DP.out.c2; have p3 : v6.cell? ⟨w.heap.size, 3, none⟩ = some (.int .i64 tp0) := DP.out.c3; have p4 : v6.cell? ⟨w.heap.size, 4, none⟩ = some (.int .i64 sv0) := DP.out.c4; have p5 : v6.cell? ⟨w.heap.size, 5, none⟩ = some (.slice a0 xs0.length cap0) := DP.out.c5; have p6 : v6.cell? ⟨w.heap.size, 6, none⟩ = some (.int .i64 mt0) := DP.out.c6; have p7 : v6.cell? ⟨w.heap.size, 7, none⟩ = some (.int .i64 ta0) := DP.out.c7; clear q0 q1 q2 q3 q4 q5 q6 q7; have DA : Hid (Pc v6 (b12) (⟨za, zc, zn, zt, zv, zm, zr⟩ : Pb) (.slice a12 n12 c12)) := DA.out.next hb6; have q0 : v6.cell? ⟨b12, 0, none⟩ = some (.int .i64 za) := DA.out.c0; have q1 : v6.cell? ⟨b12, 1, none⟩ = some (.int .i64 zc) := DA.out.c1; have q2 : v6.cell? ⟨b12, 2, none⟩ = some (.int .i64 zn) := DA.out.c2; have q3 : v6.cell? ⟨b12, 3, none⟩ = some (.int .i64 zt) := DA.out.c3; have q4 : v6.cell? ⟨b12, 4, none⟩ = some (.int .i64 zv) := DA.out.c4; have q5 : v6.cell? ⟨b12, 5, none⟩ = some (.slice a12 n12 c12) := DA.out.c5; have q6 : v6.cell? ⟨b12, 6, none⟩ = some (.int .i64 zm) := DA.out.c6; have q7 : v6.cell? ⟨b12, 7, none⟩ = some (.int .i64 zr) := DA.out.c7; clear xx0 xx1 xx2 xx3 xx4 xx5 xx6 xx7; have DX : Hid (Pc v6 (bx) (⟨sa0, cy0, sn0, tp0, sv0, mt0, ta0⟩ : Pb) (.slice (some ⟨gx, 0, none⟩) xs0.length xs0.length)) := DX.out.next hb6; have xx0 : v6.cell? ⟨bx, 0, none⟩ = some (.int .i64 sa0) := DX.out.c0; have xx1 : v6.cell? ⟨bx, 1, none⟩ = some (.int .i64 cy0) := DX.out.c1; have xx2 : v6.cell? ⟨bx, 2, none⟩ = some (.int .i64 sn0) := DX.out.c2; have xx3 : v6.cell? ⟨bx, 3, none⟩ = some (.int .i64 tp0) := DX.out.c3; have xx4 : v6.cell? ⟨bx, 4, none⟩ = some (.int .i64 sv0) := DX.out.c4; have xx5 : v6.cell? ⟨bx, 5, none⟩ = some (.slice (some ⟨gx, 0, none⟩) xs0.length xs0.length) := DX.out.c5; have xx6 : v6.cell? ⟨bx, 6, none⟩ = some (.int .i64 mt0) := DX.out.c6; have xx7 : v6.cell? ⟨bx, 7, none⟩ = some (.int .i64 ta0) := DX.out.c7; have fv12 := fv12.next hb6; have fvx := fvx.next hb6))
    have u14 : ∀ g, (Value.slice a14 n14 c14).ownBlock = some g → v5.heap.size ≤ g ∧ g < v6.heap.size := fun g hg => fv14.own hg
    have zs6 := hb6.size
    obtain ⟨v7, hv7⟩ : ∃ x, x = v6.alloc (.cells #[.int .i64 za, .int .i64 zc, .int .i64 zn, .int .i64 zt, .int .i64 zv, .slice a14 n14 c14, .int .i64 zm, .int .i64 zr] 26) := ⟨_, rfl⟩
    obtain ⟨b14, eb14⟩ : ∃ b, b = v6.heap.size := ⟨_, rfl⟩
    rw [← hv7, ← eb14]
    have yb14 : v6.heap.size ≤ b14 := by omega
    have ub14 : b14 < v7.heap.size := by rw [hv7, eb14]; simp
    have kv7 : Below v6.heap.size v6 v7 := by rw [hv7]; exact new_below _ _
    have DG : Hid (Pc v7 (b14) (⟨za, zc, zn, zt, zv, zm, zr⟩ : Pb) (.slice a14 n14 c14)) := by rw [hv7, eb14]; exact pc_new _ (⟨za, zc, zn, zt, zv, zm, zr⟩ : Pb) _ _
    clear hv7 eb14
    have hbw : Below w.heap.size w v7 := below_two hbw kv7; clear p0 p1 p2 p3 p4 p5 p6 p7
    have DP : Hid (Pc v7 (w.heap.size) (⟨sa0, cy0, sn0, tp0, sv0, mt0, ta0⟩ : Pb) (.slice a0 xs0.length cap0)) := DP.out.next kv7
    have p0 : v7.cell? ⟨w.heap.size, 0, none⟩ = some (.int .i64 sa0) := DP.out.c0
    have p1 : v7.cell? ⟨w.heap.size, 1, none⟩ = some (.int .i64 cy0) := DP.out.c1
    have p2 : v7.cell? ⟨w.heap.size, 2, none⟩ = some (.int .i64 sn0) := DP.out.c2
    have p3 : v7.cell? ⟨w.heap.size, 3, none⟩ = some (.int .i64 tp0) := DP.out.c3
    have p4 : v7.cell? ⟨w.heap.size, 4, none⟩ = some (.int .i64 sv0) := DP.out.c4
    have p5 : v7.cell? ⟨w.heap.size, 5, none⟩ = some (.slice a0 xs0.length cap0) := DP.out.c5
    have p6 : v7.cell? ⟨w.heap.size, 6, none⟩ = some (.int .i64 mt0) := DP.out.c6
    have p7 : v7.cell? ⟨w.heap.size, 7, none⟩ = some (.int .i64 ta0) := DP.out.c7; clear q0 q1 q2 q3 q4 q5 q6 q7
    have DA : Hid (Pc v7 (b12) (⟨za, zc, zn, zt, zv, zm, zr⟩ : Pb) (.slice a12 n12 c12)) := DA.out.next kv7
    have q0 : v7.cell? ⟨b12, 0, none⟩ = some (.int .i64 za) := DA.out.c0
    have q1 : v7.cell? ⟨b12, 1, none⟩ = some (.int .i64 zc) := DA.out.c1
    have q2 : v7.cell? ⟨b12, 2, none⟩ = some (.int .i64 zn) := DA.out.c2
    have q3 : v7.cell? ⟨b12, 3, none⟩ = some (.int .i64 zt) := DA.out.c3
    have q4 : v7.cell? ⟨b12, 4, none⟩ = some (.int .i64 zv) := DA.out.c4
    have q5 : v7.cell? ⟨b12, 5, none⟩ = some (.slice a12 n12 c12) := DA.out.c5
    have q6 : v7.cell? ⟨b12, 6, none⟩ = some (.int .i64 zm) := DA.out.c6
    have q7 : v7.cell? ⟨b12, 7, none⟩ = some (.int .i64 zr) := DA.out.c7; clear xx0 xx1 xx2 xx3 xx4 xx5 xx6 xx7
    have DX : Hid (Pc v7 (bx) (⟨sa0, cy0, sn0, tp0, sv0, mt0, ta0⟩ : Pb) (.slice (some ⟨gx, 0, none⟩) xs0.length xs0.length)) := DX.out.next kv7
    have xx0 : v7.cell? ⟨bx, 0, none⟩ = some (.int .i64 sa0) := DX.out.c0
    have xx1 : v7.cell? ⟨bx, 1, none⟩ = some (.int .i64 cy0) := DX.out.c1
    have xx2 : v7.cell? ⟨bx, 2, none⟩ = some (.int .i64 sn0) := DX.out.c2
    have xx3 : v7.cell? ⟨bx, 3, none⟩ = some (.int .i64 tp0) := DX.out.c3
    have xx4 : v7.cell? ⟨bx, 4, none⟩ = some (.int .i64 sv0) := DX.out.c4
    have xx5 : v7.cell? ⟨bx, 5, none⟩ = some (.slice (some ⟨gx, 0, none⟩) xs0.length xs0.length) := DX.out.c5
    have xx6 : v7.cell? ⟨bx, 6, none⟩ = some (.int .i64 mt0) := DX.out.c6
    have xx7 : v7.cell? ⟨bx, 7, none⟩ = some (.int .i64 ta0) := DX.out.c7
    have fv12 := fv12.next kv7
    have fvx := fvx.next kv7
    have fv14 := fv14.next kv7
    have g0 : v7.cell? ⟨b14, 0, none⟩ = some (.int .i64 za) := DG.out.c0
    have g1 : v7.cell? ⟨b14, 1, none⟩ = some (.int .i64 zc) := DG.out.c1
    have g2 : v7.cell? ⟨b14, 2, none⟩ = some (.int .i64 zn) := DG.out.c2
    have g3 : v7.cell? ⟨b14, 3, none⟩ = some (.int .i64 zt) := DG.out.c3
    have g4 : v7.cell? ⟨b14, 4, none⟩ = some (.int .i64 zv) := DG.out.c4
    have g5 : v7.cell? ⟨b14, 5, none⟩ = some (.slice a14 n14 c14) := DG.out.c5
    have g6 : v7.cell? ⟨b14, 6, none⟩ = some (.int .i64 zm) := DG.out.c6
    have g7 : v7.cell? ⟨b14, 7, none⟩ = some (.int .i64 zr) := DG.out.c7
    have zs7 := kv7.size
    go_upto_region 10 with (first
      | (go_at_call 11; refine (eqProbe_same fv14 fv12 (by omega)).mono ?_; rintro e v8 ⟨rfl, hb8⟩; have hbw : Below w.heap.size w v8 := below_two hbw hb8; clear p0 p1 p2 p3 p4 p5 p6 p7; have DP : Hid (Pc v8 (w.heap.size) (⟨sa0, cy0, sn0, tp0, sv0, mt0, ta0⟩ : Pb) (.slice a0 xs0.length cap0)) := DP.out.next hb8; have p0 : v8.cell? ⟨w.heap.size, 0, none⟩ = some (.int .i64 sa0) := DP.out.c0; have p1 : v8.cell? ⟨w.heap.size, 1, none⟩ = some (.int .i64 cy0) := DP.out.c1; have p2 : v8.cell? ⟨w.heap.size, 2, none⟩ = some (.int .i64 sn0) := DP.out.c2; have p3 : v8.cell? ⟨w.heap.size, 3, none⟩ = some (.int .i64 tp0) := DP.out.c3; have p4 : v8.cell? ⟨w.heap.size, 4, none⟩ = some (.int .i64 sv0) := DP.out.c4; have p5 : v8.cell? ⟨w.heap.size, 5, none⟩ = some (.slice a0 xs0.length cap0) := DP.out.c5; have p6 : v8.cell? ⟨w.heap.size, 6, none⟩ = some (.int .i64 mt0) := DP.out.c6; have p7 : v8.cell? ⟨w.heap.size, 7, none⟩ = some (.int .i64 ta0) := DP.out.c7; clear q0 q1 q2 q3 q4 q5 q6 q7; have DA : Hid (Pc v8 (b12) (⟨za, zc, zn, zt, zv, zm, zr⟩ : Pb) (.slice a12 n12 c12)) := DA.out.next hb8; have q0 : v8.cell? ⟨b12, 0, none⟩ = some (.int .i64 za) := DA.out.c0; have q1 : v8.cell? ⟨b12, 1, none⟩ = some (.int .i64 zc) := DA.out.c1; have q2 : v8.cell? ⟨b12, 2, none⟩ = some (.int .i64 zn) := DA.out.c2; have q3 : v8.cell? ⟨b12, 3, none⟩ = some (.int .i64 zt) := DA.out.c3; have q4 : v8.cell? ⟨b12, 4, none⟩ = some (.int .i64 zv) := DA.out.c4; have q5 : v8.cell? ⟨b12, 5, none⟩ = some (.slice a12 n12 c12) := DA.out.c5; have q6 : v8.cell? ⟨b12, 6, none⟩ = some (.int .i64 zm) := DA.out.c6; have q7 : v8.cell? ⟨b12, 7, none⟩ = some (.int .i64 zr) := DA.out.c7; clear xx0 xx1 xx2 xx3 xx4 xx5 xx6 xx7; have DX : Hid (Pc v8 (bx) (⟨sa0, cy0, sn0, tp0, sv0, mt0, ta0⟩ : Pb) (.slice (some ⟨gx, 0, none⟩) xs0.length xs0.length)) := DX.out.next hb8; have xx0 : v8.cell? ⟨bx, 0, none⟩ = some (.int .i64 sa0) := DX.out.c0; have xx1 : v8.cell? ⟨bx, 1, none⟩ = some (.int .i64 cy0) := DX.out.c1; have xx2 : v8.cell? ⟨bx, 2, none⟩ = some (.int .i64 sn0) := DX.out.c2; have xx3 : v8.cell? ⟨bx, 3, none⟩ = some (.int .i64 tp0) := DX.out.c3; have xx4 : v8.cell? ⟨bx, 4, none⟩ = some (.int .i64 sv0) := DX.out.c4; have xx5 : v8.cell? ⟨bx, 5, none⟩ = some (.slice (some ⟨gx, 0, none⟩) xs0.length xs0.length) := DX.out.c5; have xx6 : v8.cell? ⟨bx, 6, none⟩ = some (.int .i64 mt0) := DX.out.c6; have xx7 : v8.cell? ⟨bx, 7, none⟩ = some (.int .i64 ta0) := DX.out.c7; clear g0 g1 g2 g3 g4 g5 g6 g7; have DG : Hid (Pc v8 (b14) (⟨za, zc, zn, zt, zv, zm, zr⟩ : Pb) (.slice a14 n14 c14)) := DG.out.next hb8; have g0 : v8.cell? ⟨b14, 0, none⟩ = some (.int .i64 za) := DG.out.c0; have g1 : v8.cell? ⟨b14, 1, none⟩ = some (.int .i64 zc) := DG.out.c1; have g2 : v8.cell? ⟨b14, 2, none⟩ = some (.int .i64 zn) := DG.out.c2; have g3 : v8.cell? ⟨b14, 3, none⟩ = some (.int .i64 zt) := DG.out.c3; have g4 : v8.cell? ⟨b14, 4, none⟩ = some (.int .i64 zv) := DG.out.c4; have g5 : v8.cell? ⟨b14, 5, none⟩ = some (.slice a14 n14 c14) := DG.out.c5; have g6 : v8.cell? ⟨b14, 6, none⟩ = some (.int .i64 zm) := DG.out.c6; have g7 : v8.cell? ⟨b14, 7, none⟩ = some (.int .i64 zr) := DG.out.c7; have fv12 := fv12.next hb8; have fvx := fvx.next hb8; have fv14 := fv14.next hb8))
    have HS : Hid (∀ w', Below v8.heap.size v8 w' → (fun w' => w'.cell? ⟨w.heap.size, 0, none⟩ = some (.int .i64 sa0) ∧ w'.cell? ⟨w.heap.size, 1, none⟩ = some (.int .i64 cy0) ∧ w'.cell? ⟨w.heap.size, 2, none⟩ = some (.int .i64 sn0) ∧ w'.cell? ⟨w.heap.size, 3, none⟩ = some (.int .i64 tp0) ∧ w'.cell? ⟨w.heap.size, 4, none⟩ = some (.int .i64 sv0) ∧ w'.cell? ⟨w.heap.size, 5, none⟩ = some (.slice a0 xs0.length cap0) ∧ w'.cell? ⟨w.heap.size, 6, none⟩ = some (.int .i64 mt0) ∧ w'.cell? ⟨w.heap.size, 7, none⟩ = some (.int .i64 ta0) ∧ w'.cell? ⟨bx, 0, none⟩ = some (.int .i64 sa0) ∧ w'.cell? ⟨bx, 1, none⟩ = some (.int .i64 cy0) ∧ w'.cell? ⟨bx, 2, none⟩ = some (.int .i64 sn0) ∧ w'.cell? ⟨bx, 3, none⟩ = some (.int .i64 tp0) ∧ w'.cell? ⟨bx, 4, none⟩ = some (.int .i64 sv0) ∧ w'.cell? ⟨bx, 5, none⟩ = some (.slice (some ⟨gx, 0, none⟩) xs0.length xs0.length) ∧ w'.cell? ⟨bx, 6, none⟩ = some (.int .i64 mt0) ∧ w'.cell? ⟨bx, 7, none⟩ = some (.int .i64 ta0)) w') := fun w' h => ⟨(DP.out.next h).c0, (DP.out.next h).c1, (DP.out.next h).c2, (DP.out.next h).c3, (DP.out.next h).c4, (DP.out.next h).c5, (DP.out.next h).c6, (DP.out.next h).c7, (DX.out.next h).c0, (DX.out.next h).c1, (DX.out.next h).c2, (DX.out.next h).c3, (DX.out.next h).c4, (DX.out.next h).c5, (DX.out.next h).c6, (DX.out.next h).c7⟩
    have hr : Below v8.heap.size v8 v8.drew := (Below.refl _ _).drew
    refine wp_region_held_drew (S := fun w' => w'.cell? ⟨w.heap.size, 0, none⟩ = some (.int .i64 sa0) ∧ w'.cell? ⟨w.heap.size, 1, none⟩ = some (.int .i64 cy0) ∧ w'.cell? ⟨w.heap.size, 2, none⟩ = some (.int .i64 sn0) ∧ w'.cell? ⟨w.heap.size, 3, none⟩ = some (.int .i64 tp0) ∧ w'.cell? ⟨w.heap.size, 4, none⟩ = some (.int .i64 sv0) ∧ w'.cell? ⟨w.heap.size, 5, none⟩ = some (.slice a0 xs0.length cap0) ∧ w'.cell? ⟨w.heap.size, 6, none⟩ = some (.int .i64 mt0) ∧ w'.cell? ⟨w.heap.size, 7, none⟩ = some (.int .i64 ta0) ∧ w'.cell? ⟨bx, 0, none⟩ = some (.int .i64 sa0) ∧ w'.cell? ⟨bx, 1, none⟩ = some (.int .i64 cy0) ∧ w'.cell? ⟨bx, 2, none⟩ = some (.int .i64 sn0) ∧ w'.cell? ⟨bx, 3, none⟩ = some (.int .i64 tp0) ∧ w'.cell? ⟨bx, 4, none⟩ = some (.int .i64 sv0) ∧ w'.cell? ⟨bx, 5, none⟩ = some (.slice (some ⟨gx, 0, none⟩) xs0.length xs0.length) ∧ w'.cell? ⟨bx, 6, none⟩ = some (.int .i64 mt0) ∧ w'.cell? ⟨bx, 7, none⟩ = some (.int .i64 ta0)) (by kernel_rfl) (HS.out _ hr) (fun hS => ?_)
    refine wpAnyH_take (i := 0) (v := ?_) rfl (by kernel_rfl) (by kernel_rfl) (by kernel_rfl) (fun _ _ _ h => h) (Or.inl ⟨by rfl, ?_⟩) (by assumption) ?_
    rotate_left 1
    · (intro w' hSw; (try dsimp only at hSw); go_simp; try with_reducible rfl)
    try simp only [Act.put, List.setIfInBounds_toArray, List.set_cons_zero, List.set_cons_succ, List.getElem_toArray, List.getElem_cons_succ, List.getElem_cons_zero]
    refine wpAnyH_take (i := 1) (v := ?_) rfl (by kernel_rfl) (by kernel_rfl) (by kernel_rfl) (fun _ _ _ h => h) (Or.inl ⟨by rfl, ?_⟩) (by assumption) ?_
    rotate_left 1
    · (intro w' hSw; (try dsimp only at hSw); go_simp; try with_reducible rfl)
    try simp only [Act.put, List.setIfInBounds_toArray, List.set_cons_zero, List.set_cons_succ, List.getElem_toArray, List.getElem_cons_succ, List.getElem_cons_zero]
    refine wpAnyH_ready (rs := [2]) (by kernel_rfl) (by simp) (AllReadyH.cons rfl (fun K hK => ?_) AllReadyH.nil)
    go_simp
    (refine (toProbe_any cap0 (hs0.here (below_two hbw hr)) hs).mono ?_; rintro e x1 ⟨gF, rfl, gF0, gF1, fF, hbq⟩; have fvF : FV x1 _ (.slice (some ⟨gF, 0, none⟩) xs0.length xs0.length) xs0 := .inl ⟨gF, _, rfl, gF0, gF1, fF, Nat.le_refl _⟩; have hr := hr.trans (hbq.mono hr.size); have hSq := HS.out _ hr)
    refine hK.out _ _ (by assumption) (fun _ => ?_)
    try simp only [Act.put, List.setIfInBounds_toArray, List.set_cons_zero, List.set_cons_succ, List.getElem_toArray, List.getElem_cons_succ, List.getElem_cons_zero]
    refine wpAnyH_ready (rs := [3]) (by kernel_rfl) (by simp) (AllReadyH.cons rfl (fun K hK => ?_) AllReadyH.nil)
    go_simp
    (refine (eqProbe_same (fvx.next hr) fvF (by omega)).mono ?_; rintro e x2 ⟨rfl, hbq⟩; have hr := hr.trans (hbq.mono hr.size); have hSq := HS.out _ hr)
    refine hK.out _ _ (by assumption) (fun _ => ?_)
    try simp only [Act.put, List.setIfInBounds_toArray, List.set_cons_zero, List.set_cons_succ, List.getElem_toArray, List.getElem_cons_succ, List.getElem_cons_zero]
    refine wpAnyH_take (i := 4) (v := ?_) rfl (by kernel_rfl) (by kernel_rfl) (by kernel_rfl) (fun _ _ _ h => h) (Or.inl ⟨by rfl, ?_⟩) (by assumption) ?_
    rotate_left 1
    · (intro w' hSw; (try dsimp only at hSw); go_simp; try with_reducible rfl)
    try simp only [Act.put, List.setIfInBounds_toArray, List.set_cons_zero, List.set_cons_succ, List.getElem_toArray, List.getElem_cons_succ, List.getElem_cons_zero]
    refine wpAnyH_done (by kernel_rfl) ?_ _
    have hbw : Below w.heap.size w x2 := below_two hbw hr
    clear p0 p1 p2 p3 p4 p5 p6 p7
    have DP : Hid (Pc x2 (w.heap.size) (⟨sa0, cy0, sn0, tp0, sv0, mt0, ta0⟩ : Pb) (.slice a0 xs0.length cap0)) := DP.out.next hr
    have p0 : x2.cell? ⟨w.heap.size, 0, none⟩ = some (.int .i64 sa0) := DP.out.c0
    have p1 : x2.cell? ⟨w.heap.size, 1, none⟩ = some (.int .i64 cy0) := DP.out.c1
    have p2 : x2.cell? ⟨w.heap.size, 2, none⟩ = some (.int .i64 sn0) := DP.out.c2
    have p3 : x2.cell? ⟨w.heap.size, 3, none⟩ = some (.int .i64 tp0) := DP.out.c3
    have p4 : x2.cell? ⟨w.heap.size, 4, none⟩ = some (.int .i64 sv0) := DP.out.c4
    have p5 : x2.cell? ⟨w.heap.size, 5, none⟩ = some (.slice a0 xs0.length cap0) := DP.out.c5
    have p6 : x2.cell? ⟨w.heap.size, 6, none⟩ = some (.int .i64 mt0) := DP.out.c6
    have p7 : x2.cell? ⟨w.heap.size, 7, none⟩ = some (.int .i64 ta0) := DP.out.c7
    clear q0 q1 q2 q3 q4 q5 q6 q7
    have DA : Hid (Pc x2 (b12) (⟨za, zc, zn, zt, zv, zm, zr⟩ : Pb) (.slice a12 n12 c12)) := DA.out.next hr
    have q0 : x2.cell? ⟨b12, 0, none⟩ = some (.int .i64 za) := DA.out.c0
    have q1 : x2.cell? ⟨b12, 1, none⟩ = some (.int .i64 zc) := DA.out.c1
    have q2 : x2.cell? ⟨b12, 2, none⟩ = some (.int .i64 zn) := DA.out.c2
    have q3 : x2.cell? ⟨b12, 3, none⟩ = some (.int .i64 zt) := DA.out.c3
    have q4 : x2.cell? ⟨b12, 4, none⟩ = some (.int .i64 zv) := DA.out.c4
    have q5 : x2.cell? ⟨b12, 5, none⟩ = some (.slice a12 n12 c12) := DA.out.c5
    have q6 : x2.cell? ⟨b12, 6, none⟩ = some (.int .i64 zm) := DA.out.c6
    have q7 : x2.cell? ⟨b12, 7, none⟩ = some (.int .i64 zr) := DA.out.c7
    clear xx0 xx1 xx2 xx3 xx4 xx5 xx6 xx7
    have DX : Hid (Pc x2 (bx) (⟨sa0, cy0, sn0, tp0, sv0, mt0, ta0⟩ : Pb) (.slice (some ⟨gx, 0, none⟩) xs0.length xs0.length)) := DX.out.next hr
    have xx0 : x2.cell? ⟨bx, 0, none⟩ = some (.int .i64 sa0) := DX.out.c0
    have xx1 : x2.cell? ⟨bx, 1, none⟩ = some (.int .i64 cy0) := DX.out.c1
    have xx2 : x2.cell? ⟨bx, 2, none⟩ = some (.int .i64 sn0) := DX.out.c2
    have xx3 : x2.cell? ⟨bx, 3, none⟩ = some (.int .i64 tp0) := DX.out.c3
    have xx4 : x2.cell? ⟨bx, 4, none⟩ = some (.int .i64 sv0) := DX.out.c4
    have xx5 : x2.cell? ⟨bx, 5, none⟩ = some (.slice (some ⟨gx, 0, none⟩) xs0.length xs0.length) := DX.out.c5
    have xx6 : x2.cell? ⟨bx, 6, none⟩ = some (.int .i64 mt0) := DX.out.c6
    have xx7 : x2.cell? ⟨bx, 7, none⟩ = some (.int .i64 ta0) := DX.out.c7
    clear g0 g1 g2 g3 g4 g5 g6 g7
    have DG : Hid (Pc x2 (b14) (⟨za, zc, zn, zt, zv, zm, zr⟩ : Pb) (.slice a14 n14 c14)) := DG.out.next hr
    have g0 : x2.cell? ⟨b14, 0, none⟩ = some (.int .i64 za) := DG.out.c0
    have g1 : x2.cell? ⟨b14, 1, none⟩ = some (.int .i64 zc) := DG.out.c1
    have g2 : x2.cell? ⟨b14, 2, none⟩ = some (.int .i64 zn) := DG.out.c2
    have g3 : x2.cell? ⟨b14, 3, none⟩ = some (.int .i64 zt) := DG.out.c3
    have g4 : x2.cell? ⟨b14, 4, none⟩ = some (.int .i64 zv) := DG.out.c4
    have g5 : x2.cell? ⟨b14, 5, none⟩ = some (.slice a14 n14 c14) := DG.out.c5
    have g6 : x2.cell? ⟨b14, 6, none⟩ = some (.int .i64 zm) := DG.out.c6
    have g7 : x2.cell? ⟨b14, 7, none⟩ = some (.int .i64 zr) := DG.out.c7
    have fv12 := fv12.next hr
    have fvx := fvx.next hr
    have fv14 := fv14.next hr
    have zs8 : v7.heap.size ≤ x2.heap.size := Nat.le_trans hb8.size hr.size
    clear hr hSq HS
    go_upto_region 14 with (first
      | (go_at_call 12; refine (markProbe_any 1 fvx hs (by omega) (by omega)).mono ?_; rintro e v9 ⟨rfl, fmx, ho9⟩; have hbw := hbw.trans (ho9.below (fun g hg => (by have e' : gx = g := Option.some.inj hg; omega)) (by omega)); clear p0 p1 p2 p3 p4 p5 p6 p7; have DP : Hid (Pc v9 (w.heap.size) (⟨sa0, cy0, sn0, tp0, sv0, mt0, ta0⟩ : Pb) (.slice a0 xs0.length cap0)) := DP.out.onlyO ho9 (fun e => (by have e' : gx = w.heap.size := Option.some.inj e; omega)); have p0 : v9.cell? ⟨w.heap.size, 0, none⟩ = some (.int .i64 sa0) := DP.out.c0; have p1 : v9.cell? ⟨w.heap.size, 1, none⟩ = some (.int .i64 cy0) := DP.out.c1; have p2 : v9.cell? ⟨w.heap.size, 2, none⟩ = some (.int .i64 sn0) := DP.out.c2; have p3 : v9.cell? ⟨w.heap.size, 3, none⟩ = some (.int .i64 tp0) := DP.out.c3; have p4 : v9.cell? ⟨w.heap.size, 4, none⟩ = some (.int .i64 sv0) := DP.out.c4; have p5 : v9.cell? ⟨w.heap.size, 5, none⟩ = some (.slice a0 xs0.length cap0) := DP.out.c5; have p6 : v9.cell? ⟨w.heap.size, 6, none⟩ = some (.int .i64 mt0) := DP.out.c6; have p7 : v9.cell? ⟨w.heap.size, 7, none⟩ = some (.int .i64 ta0) := DP.out.c7; clear q0 q1 q2 q3 q4 q5 q6 q7; have DA : Hid (Pc v9 (b12) (⟨za, zc, zn, zt, zv, zm, zr⟩ : Pb) (.slice a12 n12 c12)) := DA.out.onlyO ho9 (fun e => (by have e' : gx = b12 := Option.some.inj e; omega)); have q0 : v9.cell? ⟨b12, 0, none⟩ = some (.int .i64 za) := DA.out.c0; have q1 : v9.cell? ⟨b12, 1, none⟩ = some (.int .i64 zc) := DA.out.c1; have q2 : v9.cell? ⟨b12, 2, none⟩ = some (.int .i64 zn) := DA.out.c2; have q3 : v9.cell? ⟨b12, 3, none⟩ = some (.int .i64 zt) := DA.out.c3; have q4 : v9.cell? ⟨b12, 4, none⟩ = some (.int .i64 zv) := DA.out.c4; have q5 : v9.cell? ⟨b12, 5, none⟩ = some (.slice a12 n12 c12) := DA.out.c5; have q6 : v9.cell? ⟨b12, 6, none⟩ = some (.int .i64 zm) := DA.out.c6; have q7 : v9.cell? ⟨b12, 7, none⟩ = some (.int .i64 zr) := DA.out.c7; clear xx0 xx1 xx2 xx3 xx4 xx5 xx6 xx7; have DX : Hid (Pc v9 (bx) (⟨sa0, cy0, sn0, tp0, sv0, mt0, ta0⟩ : Pb) (.slice (some ⟨gx, 0, none⟩) xs0.length xs0.length)) := DX.out.onlyO ho9 (fun e => (by have e' : gx = bx := Option.some.inj e; omega)); have xx0 : v9.cell? ⟨bx, 0, none⟩ = some (.int .i64 sa0) := DX.out.c0; have xx1 : v9.cell? ⟨bx, 1, none⟩ = some (.int .i64 cy0) := DX.out.c1; have xx2 : v9.cell? ⟨bx, 2, none⟩ = some (.int .i64 sn0) := DX.out.c2; have xx3 : v9.cell? ⟨bx, 3, none⟩ = some (.int .i64 tp0) := DX.out.c3; have xx4 : v9.cell? ⟨bx, 4, none⟩ = some (.int .i64 sv0) := DX.out.c4; have xx5 : v9.cell? ⟨bx, 5, none⟩ = some (.slice (some ⟨gx, 0, none⟩) xs0.length xs0.length) := DX.out.c5; have xx6 : v9.cell? ⟨bx, 6, none⟩ = some (.int .i64 mt0) := DX.out.c6; have xx7 : v9.cell? ⟨bx, 7, none⟩ = some (.int .i64 ta0) := DX.out.c7; clear g0 g1 g2 g3 g4 g5 g6 g7; have DG : Hid (Pc v9 (b14) (⟨za, zc, zn, zt, zv, zm, zr⟩ : Pb) (.slice a14 n14 c14)) := DG.out.onlyO ho9 (fun e => (by have e' : gx = b14 := Option.some.inj e; omega)); have g0 : v9.cell? ⟨b14, 0, none⟩ = some (.int .i64 za) := DG.out.c0; have g1 : v9.cell? ⟨b14, 1, none⟩ = some (.int .i64 zc) := DG.out.c1; have g2 : v9.cell? ⟨b14, 2, none⟩ = some (.int .i64 zn) := DG.out.c2; have g3 : v9.cell? ⟨b14, 3, none⟩ = some (.int .i64 zt) := DG.out.c3; have g4 : v9.cell? ⟨b14, 4, none⟩ = some (.int .i64 zv) := DG.out.c4; have g5 : v9.cell? ⟨b14, 5, none⟩ = some (.slice a14 n14 c14) := DG.out.c5; have g6 : v9.cell? ⟨b14, 6, none⟩ = some (.int .i64 zm) := DG.out.c6; have g7 : v9.cell? ⟨b14, 7, none⟩ = some (.int .i64 zr) := DG.out.c7; have fv12 := fv12.onlyO ho9 (fun g hg e => (by have := u12 g hg; have e' : gx = g := Option.some.inj e; omega)); have fv14 := fv14.onlyO ho9 (fun g hg e => (by have := u14 g hg; have e' : gx = g := Option.some.inj e; omega)); have zs9 := ho9.size))
    go_upto_region 17 with (first
      | (go_at_call 11; refine (eqProbe_same fv14 fv12 (by omega)).mono ?_; rintro e v10 ⟨rfl, hb10⟩; have hbw : Below w.heap.size w v10 := below_two hbw hb10; clear p0 p1 p2 p3 p4 p5 p6 p7; have DP : Hid (Pc v10 (w.heap.size) (⟨sa0, cy0, sn0, tp0, sv0, mt0, ta0⟩ : Pb) (.slice a0 xs0.length cap0)) := DP.out.next hb10; have p0 : v10.cell? ⟨w.heap.size, 0, none⟩ = some (.int .i64 sa0) := DP.out.c0; have p1 : v10.cell? ⟨w.heap.size, 1, none⟩ = some (.int .i64 cy0) := DP.out.c1; have p2 : v10.cell? ⟨w.heap.size, 2, none⟩ = some (.int .i64 sn0) := DP.out.c2; have p3 : v10.cell? ⟨w.heap.size, 3, none⟩ = some (.int .i64 tp0) := DP.out.c3; have p4 : v10.cell? ⟨w.heap.size, 4, none⟩ = some (.int .i64 sv0) := DP.out.c4; have p5 : v10.cell? ⟨w.heap.size, 5, none⟩ = some (.slice a0 xs0.length cap0) := DP.out.c5; have p6 : v10.cell? ⟨w.heap.size, 6, none⟩ = some (.int .i64 mt0) := DP.out.c6; have p7 : v10.cell? ⟨w.heap.size, 7, none⟩ = some (.int .i64 ta0) := DP.out.c7; clear q0 q1 q2 q3 q4 q5 q6 q7; have DA : Hid (Pc v10 (b12) (⟨za, zc, zn, zt, zv, zm, zr⟩ : Pb) (.slice a12 n12 c12)) := DA.out.next hb10; have q0 : v10.cell? ⟨b12, 0, none⟩ = some (.int .i64 za) := DA.out.c0; have q1 : v10.cell? ⟨b12, 1, none⟩ = some (.int .i64 zc) := DA.out.c1; have q2 : v10.cell? ⟨b12, 2, none⟩ = some (.int .i64 zn) := DA.out.c2; have q3 : v10.cell? ⟨b12, 3, none⟩ = some (.int .i64 zt) := DA.out.c3; have q4 : v10.cell? ⟨b12, 4, none⟩ = some (.int .i64 zv) := DA.out.c4; have q5 : v10.cell? ⟨b12, 5, none⟩ = some (.slice a12 n12 c12) := DA.out.c5; have q6 : v10.cell? ⟨b12, 6, none⟩ = some (.int .i64 zm) := DA.out.c6; have q7 : v10.cell? ⟨b12, 7, none⟩ = some (.int .i64 zr) := DA.out.c7; clear xx0 xx1 xx2 xx3 xx4 xx5 xx6 xx7; have DX : Hid (Pc v10 (bx) (⟨sa0, cy0, sn0, tp0, sv0, mt0, ta0⟩ : Pb) (.slice (some ⟨gx, 0, none⟩) xs0.length xs0.length)) := DX.out.next hb10; have xx0 : v10.cell? ⟨bx, 0, none⟩ = some (.int .i64 sa0) := DX.out.c0; have xx1 : v10.cell? ⟨bx, 1, none⟩ = some (.int .i64 cy0) := DX.out.c1; have xx2 : v10.cell? ⟨bx, 2, none⟩ = some (.int .i64 sn0) := DX.out.c2; have xx3 : v10.cell? ⟨bx, 3, none⟩ = some (.int .i64 tp0) := DX.out.c3; have xx4 : v10.cell? ⟨bx, 4, none⟩ = some (.int .i64 sv0) := DX.out.c4; have xx5 : v10.cell? ⟨bx, 5, none⟩ = some (.slice (some ⟨gx, 0, none⟩) xs0.length xs0.length) := DX.out.c5; have xx6 : v10.cell? ⟨bx, 6, none⟩ = some (.int .i64 mt0) := DX.out.c6; have xx7 : v10.cell? ⟨bx, 7, none⟩ = some (.int .i64 ta0) := DX.out.c7; clear g0 g1 g2 g3 g4 g5 g6 g7; have DG : Hid (Pc v10 (b14) (⟨za, zc, zn, zt, zv, zm, zr⟩ : Pb) (.slice a14 n14 c14)) := DG.out.next hb10; have g0 : v10.cell? ⟨b14, 0, none⟩ = some (.int .i64 za) := DG.out.c0; have g1 : v10.cell? ⟨b14, 1, none⟩ = some (.int .i64 zc) := DG.out.c1; have g2 : v10.cell? ⟨b14, 2, none⟩ = some (.int .i64 zn) := DG.out.c2; have g3 : v10.cell? ⟨b14, 3, none⟩ = some (.int .i64 zt) := DG.out.c3; have g4 : v10.cell? ⟨b14, 4, none⟩ = some (.int .i64 zv) := DG.out.c4; have g5 : v10.cell? ⟨b14, 5, none⟩ = some (.slice a14 n14 c14) := DG.out.c5; have g6 : v10.cell? ⟨b14, 6, none⟩ = some (.int .i64 zm) := DG.out.c6; have g7 : v10.cell? ⟨b14, 7, none⟩ = some (.int .i64 zr) := DG.out.c7; have fv12 := fv12.next hb10; have fv14 := fv14.next hb10))
    go_upto_region 18 with (first
      | (go_at_call 12; refine (markProbe_any 1 fv14 (by omega) (by omega) (by omega)).mono ?_; rintro e v11 ⟨rfl, fm14, ho11⟩; have hbw := hbw.trans (ho11.below (fun g hg => (by have := u14 g hg; omega)) (by have := hb10.size; omega)); clear p0 p1 p2 p3 p4 p5 p6 p7; have DP : Hid (Pc v11 (w.heap.size) (⟨sa0, cy0, sn0, tp0, sv0, mt0, ta0⟩ : Pb) (.slice a0 xs0.length cap0)) := DP.out.onlyO ho11 (fun e => (by have := u14 _ e; omega)); have p0 : v11.cell? ⟨w.heap.size, 0, none⟩ = some (.int .i64 sa0) := DP.out.c0; have p1 : v11.cell? ⟨w.heap.size, 1, none⟩ = some (.int .i64 cy0) := DP.out.c1; have p2 : v11.cell? ⟨w.heap.size, 2, none⟩ = some (.int .i64 sn0) := DP.out.c2; have p3 : v11.cell? ⟨w.heap.size, 3, none⟩ = some (.int .i64 tp0) := DP.out.c3; have p4 : v11.cell? ⟨w.heap.size, 4, none⟩ = some (.int .i64 sv0) := DP.out.c4; have p5 : v11.cell? ⟨w.heap.size, 5, none⟩ = some (.slice a0 xs0.length cap0) := DP.out.c5; have p6 : v11.cell? ⟨w.heap.size, 6, none⟩ = some (.int .i64 mt0) := DP.out.c6; have p7 : v11.cell? ⟨w.heap.size, 7, none⟩ = some (.int .i64 ta0) := DP.out.c7; clear q0 q1 q2 q3 q4 q5 q6 q7; have DA : Hid (Pc v11 (b12) (⟨za, zc, zn, zt, zv, zm, zr⟩ : Pb) (.slice a12 n12 c12)) := DA.out.onlyO ho11 (fun e => (by have := u14 _ e; omega)); have q0 : v11.cell? ⟨b12, 0, none⟩ = some (.int .i64 za) := DA.out.c0; have q1 : v11.cell? ⟨b12, 1, none⟩ = some (.int .i64 zc) := DA.out.c1; have q2 : v11.cell? ⟨b12, 2, none⟩ = some (.int .i64 zn) := DA.out.c2; have q3 : v11.cell? ⟨b12, 3, none⟩ = some (.int .i64 zt) := DA.out.c3; have q4 : v11.cell? ⟨b12, 4, none⟩ = some (.int .i64 zv) := DA.out.c4; have q5 : v11.cell? ⟨b12, 5, none⟩ = some (.slice a12 n12 c12) := DA.out.c5; have q6 : v11.cell? ⟨b12, 6, none⟩ = some (.int .i64 zm) := DA.out.c6; have q7 : v11.cell? ⟨b12, 7, none⟩ = some (.int .i64 zr) := DA.out.c7; clear xx0 xx1 xx2 xx3 xx4 xx5 xx6 xx7; have DX : Hid (Pc v11 (bx) (⟨sa0, cy0, sn0, tp0, sv0, mt0, ta0⟩ : Pb) (.slice (some ⟨gx, 0, none⟩) xs0.length xs0.length)) := DX.out.onlyO ho11 (fun e => (by have := u14 _ e; omega)); have xx0 : v11.cell? ⟨bx, 0, none⟩ = some (.int .i64 sa0) := DX.out.c0; have xx1 : v11.cell? ⟨bx, 1, none⟩ = some (.int .i64 cy0) := DX.out.c1; have xx2 : v11.cell? ⟨bx, 2, none⟩ = some (.int .i64 sn0) := DX.out.c2; have xx3 : v11.cell? ⟨bx, 3, none⟩ = some (.int .i64 tp0) := DX.out.c3; have xx4 : v11.cell? ⟨bx, 4, none⟩ = some (.int .i64 sv0) := DX.out.c4; have xx5 : v11.cell? ⟨bx, 5, none⟩ = some (.slice (some ⟨gx, 0, none⟩) xs0.length xs0.length) := DX.out.c5; have xx6 : v11.cell? ⟨bx, 6, none⟩ = some (.int .i64 mt0) := DX.out.c6; have xx7 : v11.cell? ⟨bx, 7, none⟩ = some (.int .i64 ta0) := DX.out.c7; clear g0 g1 g2 g3 g4 g5 g6 g7; have DG : Hid (Pc v11 (b14) (⟨za, zc, zn, zt, zv, zm, zr⟩ : Pb) (.slice a14 n14 c14)) := DG.out.onlyO ho11 (fun e => (by have := u14 _ e; omega)); have g0 : v11.cell? ⟨b14, 0, none⟩ = some (.int .i64 za) := DG.out.c0; have g1 : v11.cell? ⟨b14, 1, none⟩ = some (.int .i64 zc) := DG.out.c1; have g2 : v11.cell? ⟨b14, 2, none⟩ = some (.int .i64 zn) := DG.out.c2; have g3 : v11.cell? ⟨b14, 3, none⟩ = some (.int .i64 zt) := DG.out.c3; have g4 : v11.cell? ⟨b14, 4, none⟩ = some (.int .i64 zv) := DG.out.c4; have g5 : v11.cell? ⟨b14, 5, none⟩ = some (.slice a14 n14 c14) := DG.out.c5; have g6 : v11.cell? ⟨b14, 6, none⟩ = some (.int .i64 zm) := DG.out.c6; have g7 : v11.cell? ⟨b14, 7, none⟩ = some (.int .i64 zr) := DG.out.c7; have fv12 := fv12.onlyO ho11 (fun g hg e => (by have := u12 g hg; have := u14 g e; omega))))
    go_upto_region 24 with (first
      | (go_at_call 13; refine (heldProbe_any 1 fm14 (by omega) (by omega) (by omega)).mono ?_; rintro e v12 ⟨rfl, hb12⟩; have hbw : Below w.heap.size w v12 := below_two hbw hb12; clear p0 p1 p2 p3 p4 p5 p6 p7; have DP : Hid (Pc v12 (w.heap.size) (⟨sa0, cy0, sn0, tp0, sv0, mt0, ta0⟩ : Pb) (.slice a0 xs0.length cap0)) := DP.out.next hb12; have p0 : v12.cell? ⟨w.heap.size, 0, none⟩ = some (.int .i64 sa0) := DP.out.c0; have p1 : v12.cell? ⟨w.heap.size, 1, none⟩ = some (.int .i64 cy0) := DP.out.c1; have p2 : v12.cell? ⟨w.heap.size, 2, none⟩ = some (.int .i64 sn0) := DP.out.c2; have p3 : v12.cell? ⟨w.heap.size, 3, none⟩ = some (.int .i64 tp0) := DP.out.c3; have p4 : v12.cell? ⟨w.heap.size, 4, none⟩ = some (.int .i64 sv0) := DP.out.c4; have p5 : v12.cell? ⟨w.heap.size, 5, none⟩ = some (.slice a0 xs0.length cap0) := DP.out.c5; have p6 : v12.cell? ⟨w.heap.size, 6, none⟩ = some (.int .i64 mt0) := DP.out.c6; have p7 : v12.cell? ⟨w.heap.size, 7, none⟩ = some (.int .i64 ta0) := DP.out.c7; clear q0 q1 q2 q3 q4 q5 q6 q7; have DA : Hid (Pc v12 (b12) (⟨za, zc, zn, zt, zv, zm, zr⟩ : Pb) (.slice a12 n12 c12)) := DA.out.next hb12; have q0 : v12.cell? ⟨b12, 0, none⟩ = some (.int .i64 za) := DA.out.c0; have q1 : v12.cell? ⟨b12, 1, none⟩ = some (.int .i64 zc) := DA.out.c1; have q2 : v12.cell? ⟨b12, 2, none⟩ = some (.int .i64 zn) := DA.out.c2; have q3 : v12.cell? ⟨b12, 3, none⟩ = some (.int .i64 zt) := DA.out.c3; have q4 : v12.cell? ⟨b12, 4, none⟩ = some (.int .i64 zv) := DA.out.c4; have q5 : v12.cell? ⟨b12, 5, none⟩ = some (.slice a12 n12 c12) := DA.out.c5; have q6 : v12.cell? ⟨b12, 6, none⟩ = some (.int .i64 zm) := DA.out.c6; have q7 : v12.cell? ⟨b12, 7, none⟩ = some (.int .i64 zr) := DA.out.c7; clear xx0 xx1 xx2 xx3 xx4 xx5 xx6 xx7; have DX : Hid (Pc v12 (bx) (⟨sa0, cy0, sn0, tp0, sv0, mt0, ta0⟩ : Pb) (.slice (some ⟨gx, 0, none⟩) xs0.length xs0.length)) := DX.out.next hb12; have xx0 : v12.cell? ⟨bx, 0, none⟩ = some (.int .i64 sa0) := DX.out.c0; have xx1 : v12.cell? ⟨bx, 1, none⟩ = some (.int .i64 cy0) := DX.out.c1; have xx2 : v12.cell? ⟨bx, 2, none⟩ = some (.int .i64 sn0) := DX.out.c2; have xx3 : v12.cell? ⟨bx, 3, none⟩ = some (.int .i64 tp0) := DX.out.c3; have xx4 : v12.cell? ⟨bx, 4, none⟩ = some (.int .i64 sv0) := DX.out.c4; have xx5 : v12.cell? ⟨bx, 5, none⟩ = some (.slice (some ⟨gx, 0, none⟩) xs0.length xs0.length) := DX.out.c5; have xx6 : v12.cell? ⟨bx, 6, none⟩ = some (.int .i64 mt0) := DX.out.c6; have xx7 : v12.cell? ⟨bx, 7, none⟩ = some (.int .i64 ta0) := DX.out.c7; clear g0 g1 g2 g3 g4 g5 g6 g7; have DG : Hid (Pc v12 (b14) (⟨za, zc, zn, zt, zv, zm, zr⟩ : Pb) (.slice a14 n14 c14)) := DG.out.next hb12; have g0 : v12.cell? ⟨b14, 0, none⟩ = some (.int .i64 za) := DG.out.c0; have g1 : v12.cell? ⟨b14, 1, none⟩ = some (.int .i64 zc) := DG.out.c1; have g2 : v12.cell? ⟨b14, 2, none⟩ = some (.int .i64 zn) := DG.out.c2; have g3 : v12.cell? ⟨b14, 3, none⟩ = some (.int .i64 zt) := DG.out.c3; have g4 : v12.cell? ⟨b14, 4, none⟩ = some (.int .i64 zv) := DG.out.c4; have g5 : v12.cell? ⟨b14, 5, none⟩ = some (.slice a14 n14 c14) := DG.out.c5; have g6 : v12.cell? ⟨b14, 6, none⟩ = some (.int .i64 zm) := DG.out.c6; have g7 : v12.cell? ⟨b14, 7, none⟩ = some (.int .i64 zr) := DG.out.c7; have fv12 := fv12.next hb12; have fm14 := fm14.next hb12))
    go_upto_region 25 with (first
      | (go_at_call 16; refine (toProbe_any cap0 (hs0.here hbw) hs).mono ?_; rintro e v13 ⟨g13, rfl, g130, g131, f13, hb13⟩; have hbw : Below w.heap.size w v13 := below_two hbw hb13; clear p0 p1 p2 p3 p4 p5 p6 p7; have DP : Hid (Pc v13 (w.heap.size) (⟨sa0, cy0, sn0, tp0, sv0, mt0, ta0⟩ : Pb) (.slice a0 xs0.length cap0)) := DP.out.next hb13; have p0 : v13.cell? ⟨w.heap.size, 0, none⟩ = some (.int .i64 sa0) := DP.out.c0; have p1 : v13.cell? ⟨w.heap.size, 1, none⟩ = some (.int .i64 cy0) := DP.out.c1; have p2 : v13.cell? ⟨w.heap.size, 2, none⟩ = some (.int .i64 sn0) := DP.out.c2; have p3 : v13.cell? ⟨w.heap.size, 3, none⟩ = some (.int .i64 tp0) := DP.out.c3; have p4 : v13.cell? ⟨w.heap.size, 4, none⟩ = some (.int .i64 sv0) := DP.out.c4; have p5 : v13.cell? ⟨w.heap.size, 5, none⟩ = some (.slice a0 xs0.length cap0) := DP.out.c5; have p6 : v13.cell? ⟨w.heap.size, 6, none⟩ = some (.int .i64 mt0) := DP.out.c6; have p7 : v13.cell? ⟨w.heap.size, 7, none⟩ = some (.int .i64 ta0) := DP.out.c7; clear q0 q1 q2 q3 q4 q5 q6 q7; have DA : Hid (Pc v13 (b12) (⟨za, zc, zn, zt, zv, zm, zr⟩ : Pb) (.slice a12 n12 c12)) := DA.out.next hb13; have q0 : v13.cell? ⟨b12, 0, none⟩ = some (.int .i64 za) := DA.out.c0; have q1 : v13.cell? ⟨b12, 1, none⟩ = some (.int .i64 zc) := DA.out.c1; have q2 : v13.cell? ⟨b12, 2, none⟩ = some (.int .i64 zn) := DA.out.c2; have q3 : v13.cell? ⟨b12, 3, none⟩ = some (.int .i64 zt) := DA.out.c3; have q4 : v13.cell? ⟨b12, 4, none⟩ = some (.int .i64 zv) := DA.out.c4; have q5 : v13.cell? ⟨b12, 5, none⟩ = some (.slice a12 n12 c12) := DA.out.c5; have q6 : v13.cell? ⟨b12, 6, none⟩ = some (.int .i64 zm) := DA.out.c6; have q7 : v13.cell? ⟨b12, 7, none⟩ = some (.int .i64 zr) := DA.out.c7; clear g0 g1 g2 g3 g4 g5 g6 g7; have DG : Hid (Pc v13 (b14) (⟨za, zc, zn, zt, zv, zm, zr⟩ : Pb) (.slice a14 n14 c14)) := DG.out.next hb13; have g0 : v13.cell? ⟨b14, 0, none⟩ = some (.int .i64 za) := DG.out.c0; have g1 : v13.cell? ⟨b14, 1, none⟩ = some (.int .i64 zc) := DG.out.c1; have g2 : v13.cell? ⟨b14, 2, none⟩ = some (.int .i64 zn) := DG.out.c2; have g3 : v13.cell? ⟨b14, 3, none⟩ = some (.int .i64 zt) := DG.out.c3; have g4 : v13.cell? ⟨b14, 4, none⟩ = some (.int .i64 zv) := DG.out.c4; have g5 : v13.cell? ⟨b14, 5, none⟩ = some (.slice a14 n14 c14) := DG.out.c5; have g6 : v13.cell? ⟨b14, 6, none⟩ = some (.int .i64 zm) := DG.out.c6; have g7 : v13.cell? ⟨b14, 7, none⟩ = some (.int .i64 zr) := DG.out.c7; have fv12 := fv12.next hb13; have fm14 := fm14.next hb13; have sm13 := f13.smp g131)
      | (go_at_call 23; refine (HIM.out _ _ _ sm13 (Nat.le_refl _) (by intro e; cases e)).mono ?_; rintro e v14 ⟨a18, n18, c18, rfl, fv18, hb14⟩; have hbw : Below w.heap.size w v14 := below_two hbw hb14; clear p0 p1 p2 p3 p4 p5 p6 p7; have DP : Hid (Pc v14 (w.heap.size) (⟨sa0, cy0, sn0, tp0, sv0, mt0, ta0⟩ : Pb) (.slice a0 xs0.length cap0)) := DP.out.next hb14; have p0 : v14.cell? ⟨w.heap.size, 0, none⟩ = some (.int .i64 sa0) := DP.out.c0; have p1 : v14.cell? ⟨w.heap.size, 1, none⟩ = some (.int .i64 cy0) := DP.out.c1; have p2 : v14.cell? ⟨w.heap.size, 2, none⟩ = some (.int .i64 sn0) := DP.out.c2; have p3 : v14.cell? ⟨w.heap.size, 3, none⟩ = some (.int .i64 tp0) := DP.out.c3; have p4 : v14.cell? ⟨w.heap.size, 4, none⟩ = some (.int .i64 sv0) := DP.out.c4; have p5 : v14.cell? ⟨w.heap.size, 5, none⟩ = some (.slice a0 xs0.length cap0) := DP.out.c5; have p6 : v14.cell? ⟨w.heap.size, 6, none⟩ = some (.int .i64 mt0) := DP.out.c6; have p7 : v14.cell? ⟨w.heap.size, 7, none⟩ = some (.int .i64 ta0) := DP.out.c7; clear q0 q1 q2 q3 q4 q5 q6 q7; have DA : Hid (Pc v14 (b12) (⟨za, zc, zn, zt, zv, zm, zr⟩ : Pb) (.slice a12 n12 c12)) := DA.out.next hb14; have q0 : v14.cell? ⟨b12, 0, none⟩ = some (.int .i64 za) := DA.out.c0; have q1 : v14.cell? ⟨b12, 1, none⟩ = some (.int .i64 zc) := DA.out.c1; have q2 : v14.cell? ⟨b12, 2, none⟩ = some (.int .i64 zn) := DA.out.c2; have q3 : v14.cell? ⟨b12, 3, none⟩ = some (.int .i64 zt) := DA.out.c3; have q4 : v14.cell? ⟨b12, 4, none⟩ = some (.int .i64 zv) := DA.out.c4; have q5 : v14.cell? ⟨b12, 5, none⟩ = some (.slice a12 n12 c12) := DA.out.c5; have q6 : v14.cell? ⟨b12, 6, none⟩ = some (.int .i64 zm) := DA.out.c6; have q7 : v14.cell? ⟨b12, 7, none⟩ = some (.int .i64 zr) := DA.out.c7; clear g0 g1 g2 g3 g4 g5 g6 g7; have DG : Hid (Pc v14 (b14) (⟨za, zc, zn, zt, zv, zm, zr⟩ : Pb) (.slice a14 n14 c14)) := DG.out.next hb14; have g0 : v14.cell? ⟨b14, 0, none⟩ = some (.int .i64 za) := DG.out.c0; have g1 : v14.cell? ⟨b14, 1, none⟩ = some (.int .i64 zc) := DG.out.c1; have g2 : v14.cell? ⟨b14, 2, none⟩ = some (.int .i64 zn) := DG.out.c2; have g3 : v14.cell? ⟨b14, 3, none⟩ = some (.int .i64 zt) := DG.out.c3; have g4 : v14.cell? ⟨b14, 4, none⟩ = some (.int .i64 zv) := DG.out.c4; have g5 : v14.cell? ⟨b14, 5, none⟩ = some (.slice a14 n14 c14) := DG.out.c5; have g6 : v14.cell? ⟨b14, 6, none⟩ = some (.int .i64 zm) := DG.out.c6; have g7 : v14.cell? ⟨b14, 7, none⟩ = some (.int .i64 zr) := DG.out.c7; have fv12 := fv12.next hb14; have fm14 := fm14.next hb14))
    obtain ⟨v15, hv15⟩ : ∃ x, x = v14.alloc (.cells #[.int .i64 za, .int .i64 zc, .int .i64 zn, .int .i64 zt, .int .i64 zv, .slice a18 n18 c18, .int .i64 zm, .int .i64 zr] 26) := ⟨_, rfl⟩
    obtain ⟨b18, eb18⟩ : ∃ b, b = v14.heap.size := ⟨_, rfl⟩
    rw [← hv15, ← eb18]
    have yb18 : v14.heap.size ≤ b18 := by omega
    have ub18 : b18 < v15.heap.size := by rw [hv15, eb18]; simp
    have kv15 : Below v14.heap.size v14 v15 := by rw [hv15]; exact new_below _ _
    have DH : Hid (Pc v15 (b18) (⟨za, zc, zn, zt, zv, zm, zr⟩ : Pb) (.slice a18 n18 c18)) := by rw [hv15, eb18]; exact pc_new _ (⟨za, zc, zn, zt, zv, zm, zr⟩ : Pb) _ _
    clear hv15 eb18
    have hbw : Below w.heap.size w v15 := below_two hbw kv15; clear p0 p1 p2 p3 p4 p5 p6 p7
    have DP : Hid (Pc v15 (w.heap.size) (⟨sa0, cy0, sn0, tp0, sv0, mt0, ta0⟩ : Pb) (.slice a0 xs0.length cap0)) := DP.out.next kv15
    have p0 : v15.cell? ⟨w.heap.size, 0, none⟩ = some (.int .i64 sa0) := DP.out.c0
    have p1 : v15.cell? ⟨w.heap.size, 1, none⟩ = some (.int .i64 cy0) := DP.out.c1
    have p2 : v15.cell? ⟨w.heap.size, 2, none⟩ = some (.int .i64 sn0) := DP.out.c2
    have p3 : v15.cell? ⟨w.heap.size, 3, none⟩ = some (.int .i64 tp0) := DP.out.c3
    have p4 : v15.cell? ⟨w.heap.size, 4, none⟩ = some (.int .i64 sv0) := DP.out.c4
    have p5 : v15.cell? ⟨w.heap.size, 5, none⟩ = some (.slice a0 xs0.length cap0) := DP.out.c5
    have p6 : v15.cell? ⟨w.heap.size, 6, none⟩ = some (.int .i64 mt0) := DP.out.c6
    have p7 : v15.cell? ⟨w.heap.size, 7, none⟩ = some (.int .i64 ta0) := DP.out.c7; clear q0 q1 q2 q3 q4 q5 q6 q7
    have DA : Hid (Pc v15 (b12) (⟨za, zc, zn, zt, zv, zm, zr⟩ : Pb) (.slice a12 n12 c12)) := DA.out.next kv15
    have q0 : v15.cell? ⟨b12, 0, none⟩ = some (.int .i64 za) := DA.out.c0
    have q1 : v15.cell? ⟨b12, 1, none⟩ = some (.int .i64 zc) := DA.out.c1
    have q2 : v15.cell? ⟨b12, 2, none⟩ = some (.int .i64 zn) := DA.out.c2
    have q3 : v15.cell? ⟨b12, 3, none⟩ = some (.int .i64 zt) := DA.out.c3
    have q4 : v15.cell? ⟨b12, 4, none⟩ = some (.int .i64 zv) := DA.out.c4
    have q5 : v15.cell? ⟨b12, 5, none⟩ = some (.slice a12 n12 c12) := DA.out.c5
    have q6 : v15.cell? ⟨b12, 6, none⟩ = some (.int .i64 zm) := DA.out.c6
    have q7 : v15.cell? ⟨b12, 7, none⟩ = some (.int .i64 zr) := DA.out.c7; clear g0 g1 g2 g3 g4 g5 g6 g7
    have DG : Hid (Pc v15 (b14) (⟨za, zc, zn, zt, zv, zm, zr⟩ : Pb) (.slice a14 n14 c14)) := DG.out.next kv15
    have g0 : v15.cell? ⟨b14, 0, none⟩ = some (.int .i64 za) := DG.out.c0
    have g1 : v15.cell? ⟨b14, 1, none⟩ = some (.int .i64 zc) := DG.out.c1
    have g2 : v15.cell? ⟨b14, 2, none⟩ = some (.int .i64 zn) := DG.out.c2
    have g3 : v15.cell? ⟨b14, 3, none⟩ = some (.int .i64 zt) := DG.out.c3
    have g4 : v15.cell? ⟨b14, 4, none⟩ = some (.int .i64 zv) := DG.out.c4
    have g5 : v15.cell? ⟨b14, 5, none⟩ = some (.slice a14 n14 c14) := DG.out.c5
    have g6 : v15.cell? ⟨b14, 6, none⟩ = some (.int .i64 zm) := DG.out.c6
    have g7 : v15.cell? ⟨b14, 7, none⟩ = some (.int .i64 zr) := DG.out.c7
    have fv12 := fv12.next kv15
    have fm14 := fm14.next kv15
    have fv18 := fv18.next kv15
    have h0 : v15.cell? ⟨b18, 0, none⟩ = some (.int .i64 za) := DH.out.c0
    have h1 : v15.cell? ⟨b18, 1, none⟩ = some (.int .i64 zc) := DH.out.c1
    have h2 : v15.cell? ⟨b18, 2, none⟩ = some (.int .i64 zn) := DH.out.c2
    have h3 : v15.cell? ⟨b18, 3, none⟩ = some (.int .i64 zt) := DH.out.c3
    have h4 : v15.cell? ⟨b18, 4, none⟩ = some (.int .i64 zv) := DH.out.c4
    have h5 : v15.cell? ⟨b18, 5, none⟩ = some (.slice a18 n18 c18) := DH.out.c5
    have h6 : v15.cell? ⟨b18, 6, none⟩ = some (.int .i64 zm) := DH.out.c6
    have h7 : v15.cell? ⟨b18, 7, none⟩ = some (.int .i64 zr) := DH.out.c7
    go_wp2_with (first
      | (go_at_call 11; refine (eqProbe_same fv18 fv12 (by omega)).mono ?_; rintro e v16 ⟨rfl, hb16⟩; have hbw : Below w.heap.size w v16 := below_two hbw hb16; clear p0 p1 p2 p3 p4 p5 p6 p7; have DP : Hid (Pc v16 (w.heap.size) (⟨sa0, cy0, sn0, tp0, sv0, mt0, ta0⟩ : Pb) (.slice a0 xs0.length cap0)) := DP.out.next hb16; have p0 : v16.cell? ⟨w.heap.size, 0, none⟩ = some (.int .i64 sa0) := DP.out.c0; have p1 : v16.cell? ⟨w.heap.size, 1, none⟩ = some (.int .i64 cy0) := DP.out.c1; have p2 : v16.cell? ⟨w.heap.size, 2, none⟩ = some (.int .i64 sn0) := DP.out.c2; have p3 : v16.cell? ⟨w.heap.size, 3, none⟩ = some (.int .i64 tp0) := DP.out.c3; have p4 : v16.cell? ⟨w.heap.size, 4, none⟩ = some (.int .i64 sv0) := DP.out.c4; have p5 : v16.cell? ⟨w.heap.size, 5, none⟩ = some (.slice a0 xs0.length cap0) := DP.out.c5; have p6 : v16.cell? ⟨w.heap.size, 6, none⟩ = some (.int .i64 mt0) := DP.out.c6; have p7 : v16.cell? ⟨w.heap.size, 7, none⟩ = some (.int .i64 ta0) := DP.out.c7; clear q0 q1 q2 q3 q4 q5 q6 q7; have DA : Hid (Pc v16 (b12) (⟨za, zc, zn, zt, zv, zm, zr⟩ : Pb) (.slice a12 n12 c12)) := DA.out.next hb16; have q0 : v16.cell? ⟨b12, 0, none⟩ = some (.int .i64 za) := DA.out.c0; have q1 : v16.cell? ⟨b12, 1, none⟩ = some (.int .i64 zc) := DA.out.c1; have q2 : v16.cell? ⟨b12, 2, none⟩ = some (.int .i64 zn) := DA.out.c2; have q3 : v16.cell? ⟨b12, 3, none⟩ = some (.int .i64 zt) := DA.out.c3; have q4 : v16.cell? ⟨b12, 4, none⟩ = some (.int .i64 zv) := DA.out.c4; have q5 : v16.cell? ⟨b12, 5, none⟩ = some (.slice a12 n12 c12) := DA.out.c5; have q6 : v16.cell? ⟨b12, 6, none⟩ = some (.int .i64 zm) := DA.out.c6; have q7 : v16.cell? ⟨b12, 7, none⟩ = some (.int .i64 zr) := DA.out.c7; clear g0 g1 g2 g3 g4 g5 g6 g7; have DG : Hid (Pc v16 (b14) (⟨za, zc, zn, zt, zv, zm, zr⟩ : Pb) (.slice a14 n14 c14)) := DG.out.next hb16; have g0 : v16.cell? ⟨b14, 0, none⟩ = some (.int .i64 za) := DG.out.c0; have g1 : v16.cell? ⟨b14, 1, none⟩ = some (.int .i64 zc) := DG.out.c1; have g2 : v16.cell? ⟨b14, 2, none⟩ = some (.int .i64 zn) := DG.out.c2; have g3 : v16.cell? ⟨b14, 3, none⟩ = some (.int .i64 zt) := DG.out.c3; have g4 : v16.cell? ⟨b14, 4, none⟩ = some (.int .i64 zv) := DG.out.c4; have g5 : v16.cell? ⟨b14, 5, none⟩ = some (.slice a14 n14 c14) := DG.out.c5; have g6 : v16.cell? ⟨b14, 6, none⟩ = some (.int .i64 zm) := DG.out.c6; have g7 : v16.cell? ⟨b14, 7, none⟩ = some (.int .i64 zr) := DG.out.c7; have fv12 := fv12.next hb16; have fm14 := fm14.next hb16)
      | (go_at_call 13; refine (heldProbe_any 1 fm14 (by omega) (by omega) (by omega)).mono ?_; rintro e v17 ⟨rfl, hb17⟩; have hbw : Below w.heap.size w v17 := below_two hbw hb17))
    go_ret
    exact ⟨rfl, hbw⟩
  · have hz : (if xs0.length ≤ 1048576 then 1048576 - (xs0.length : Int) else -1) = -1 := if_neg hs
    go_enter Try.func7, Try.ntmps7
    go_wp2_with (first
      | (go_at_call 14; refine (szProbe_any _ _ _ _ hl).mono ?_; rintro e v1 ⟨rfl, hb1⟩; rw [hz]; have hbw : Below w.heap.size w v1 := below_two (by go_grown) hb1))
    go_ret
    exact ⟨rfl, hbw⟩

/-! ### THE ROW's STEP -/
set_option maxRecDepth 100000 in
theorem lifted (os : Os) (started : os.Started) (H : Type) (enc : TypeId × Value → H) :
    ReturnsInHanded {} Try.checked os 7 .any (Rows.fnExactObserveSpec.pre6 enc Try.prog Try.f7 Rows.fnExactObserveRow.domain false) (Rows.fnExactObserveSpec.post enc Try.prog Try.f7 false true false false) := by
  refine returnsInHanded_of_change (C := Try.checked) own started (by kernel_rfl) Try.func7
    (ChangeSpec.witness6 (enc := enc) (C := Try.checked) false ⟨#[], #[.agg #[.int .i64 0, .int .i64 0, .int .i64 0, .int .i64 0, .int .i64 0, .slice none 0 0, .int .i64 0, .int .i64 0], .int .i64 0, .int .i64 0, .int .i64 0, .int .i64 0], []⟩ 8 (by kernel_rfl) (by kernel_rfl) (by kernel_rfl) (by kernel_rfl)) ?_
  intro W base args ds gs before hval0 hW hcnd _
  have hval : ∀ (j : Nat) t v, Try.f7.params[j]? = some t → args[j]? = some v → Value.okWide Try.prog W .any base t v := hval0
  have hW' := hW
  have hlt := hW'.lt
  obtain ⟨p, q, hA0, hV, rfl, hfz, hnd⟩ := hW
  have hA : DataW.TrodAll enc Try.prog W 0 (fun _ => true) true Try.f7.params.toList args.toList ds p := hA0
  rw [Try.params7] at hA hval
  have hR := hA
  obtain ⟨v0, vs0, d0, ds0, p0, q0, hargs, rfl, rfl, h0, r0⟩ := trodAll_cons hA
  obtain ⟨v1, vs1, d1, ds1, p1, q1, rfl, rfl, rfl, h1, r1⟩ := trodAll_cons r0
  obtain ⟨v2, vs2, d2, ds2, p2, q2, rfl, rfl, rfl, h2, r2⟩ := trodAll_cons r1
  obtain ⟨v3, vs3, d3, ds3, p3, q3, rfl, rfl, rfl, h3, r3⟩ := trodAll_cons r2
  obtain ⟨v4, vs4, d4, ds4, p4, q4, rfl, rfl, rfl, h4, r4⟩ := trodAll_cons r3
  obtain ⟨rfl, rfl, rfl⟩ := trodAll_nil r4
  obtain rfl : args = #[v0, v1, v2, v3, v4] := by cases args; simp_all
  obtain ⟨rfl, rfl⟩ := trodVars_none hV
  obtain ⟨sa0, cy0, sn0, tp0, sv0, mt0, ta0, a0, cap0, xs0, rfl, isa0, icy0, isn0, itp0, isv0, imt0, ita0, hs0, hi0, hn0, hc0, hm0⟩ := open_probe (hval 0 36 v0 rfl rfl) h0
  obtain ⟨a1, rfl, rfl, rfl, w1⟩ := open_int Try.underlying2 (hval 1 2 v1 rfl rfl) h1
  obtain ⟨a2, rfl, rfl, rfl, w2⟩ := open_int Try.underlying2 (hval 2 2 v2 rfl rfl) h2
  obtain ⟨a3, rfl, rfl, rfl, w3⟩ := open_int Try.underlying2 (hval 3 2 v3 rfl rfl) h3
  obtain ⟨a4, rfl, rfl, rfl, w4⟩ := open_int Try.underlying2 (hval 4 2 v4 rfl rfl) h4
  clear hA0 hval0
  refine (walk W sa0 cy0 sn0 tp0 sv0 mt0 ta0 a0 cap0 xs0 isa0 icy0 isn0 itp0 isv0 imt0 ita0 hs0 hi0 hn0 hc0 hm0 a1 w1 a2 w2 a3 w3 a4 w4).mono fun e W' ⟨he, hg⟩ => ?_
  subst he
  exact ⟨_, rfl, _, _, _, [], _, [], hW', (trodAll_cons_mk (shut_bool Try.underlying4 _) trodAll_mk0), trodAll_after table_ok hg (by decide) hR (fun x hx => hlt x (List.mem_append.2 (.inl hx))), rfl, hg.frame _, fun h => by cases h⟩

theorem over : Rows.fnExactObserveRow.holds Try.pinned (OpenSpec.ofChange Rows.fnExactObserveSpec) :=
  OpenClaim.holds_of_wide 7 Try.f7 rfl rfl rfl rfl rfl rfl rfl ⟨rfl, rfl, rfl, rfl, rfl⟩ rfl rfl rfl rfl rfl (by kernel_rfl) Try.func7 (by kernel_rfl)
    (of_decide_eq_true (by kernel_rfl)) (by unfold Func.isWrapper; first | (rw [if_pos (by decide +kernel)]; kernel_rfl) | (rw [if_neg (by decide +kernel)]; exact ⟨rfl, rfl⟩))
    (fun os started H enc _ => lifted os started H enc)

theorem proved : Rows.FnExactObserveSaid := over
#print axioms proved
end Go.Proofs.Ytiibafphgjlffaq.fnExactObserve
namespace Go.Proofs.Ytiibafphgjlffaq
theorem fnExactObserve_holds : Rows.FnExactObserveSaid := fnExactObserve.proved
#print axioms fnExactObserve_holds
end Go.Proofs.Ytiibafphgjlffaq
