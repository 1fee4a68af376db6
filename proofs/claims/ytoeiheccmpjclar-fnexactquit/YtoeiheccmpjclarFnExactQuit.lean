/- Proved: at every Place and numbers impl.Quit answers as spec.Quit does, writes nothing into its arguments, and its answer owns its memory (the law FnExactQuit returns true and its arguments read as before); no condition. -/
import Derived.Test.YtoeiheccmpjclarRows
import Derived.WalkKit
import Derived.ProofKit
import Derived.OpenShut
import Derived.ShutString
import Derived.Below
import Derived.Laws.Cover2
import Derived.Test.YtoeiheccmpjclarJoinBoth
import Derived.Deep.RegionHeld3
namespace Go.Proofs.Ytoeiheccmpjclar.fnExactQuit
open Go.ChangeShapes Go.WideShapes Go.ChangeAt Go.RowKit
set_option linter.unusedVariables false

theorem own : ownKnob Try.prog.godebug = none := by kernel_rfl

set_option linter.unusedSimpArgs false
set_option linter.unusedVariables false
set_option maxRecDepth 100000

/-! ### STEP 1: the walk -/
set_option maxHeartbeats 16000000 in
theorem walk (w : World) (wd0 fl0 : Int) (a0 : Option Addr) (cap0 : Nat) (xs0 : List Int) (iwd0 : I64 wd0) (ifl0 : I64 fl0) (hs0 : ISmp w.heap.size w a0 xs0) (hm0 : xs0.length ≤ maxLen) (a1 : Int) (w1 : (Lit.int .i64 a1).wf = true) (a2 : Int) (w2 : (Lit.int .i64 a2).wf = true) :
    Calls Try.prog 4 #[.agg #[.int .i64 wd0, .int .i64 fl0, .slice a0 xs0.length cap0], .int .i64 a1, .int .i64 a2] w fun e w' => e = .returned (.bool true) ∧ Below w.heap.size w w' := by
  have hl : (xs0.length : Int) ≤ 9223372036854775807 := by unfold maxLen at hm0; omega
  by_cases hs : xs0.length ≤ 1048576
  · have hz : (if xs0.length ≤ 1048576 then 1048576 - (xs0.length : Int) else -1) = 1048576 - (xs0.length : Int) := if_pos hs
    have hz' : (0 : Int) ≤ 1048576 - (xs0.length : Int) := by omega
    have DP0 : Hid (Qc (w.alloc (.cells #[.int .i64 wd0, .int .i64 fl0, .slice a0 xs0.length cap0] 24)) w.heap.size wd0 fl0 (.slice a0 xs0.length cap0)) := qc_new w wd0 fl0 _ _
    obtain ⟨ys, zd, zf, zb, hys, _, _, hsp, him⟩ := quits wd0 fl0 a1 a2 xs0
    have HSP : Hid (∀ (w : World) (a : Option Addr) (cap : Nat), ISmp w.heap.size w a xs0 → xs0.length ≤ cap → Calls Try.prog 16 #[.agg #[.int .i64 wd0, .int .i64 fl0, .slice a xs0.length cap], .int .i64 a1, .int .i64 a2] w (AnsPT w ys zd zf zb)) := hsp
    have HIM : Hid (∀ (w : World) (a : Option Addr) (cap : Nat), ISmp w.heap.size w a xs0 → xs0.length ≤ cap → Calls Try.prog 17 #[.agg #[.int .i64 wd0, .int .i64 fl0, .slice a xs0.length cap], .int .i64 a1, .int .i64 a2] w (AnsPT w ys zd zf zb)) := him
    clear hsp him
    have hkb : decide (1 + (xs0.length : Int) < 0) = false := decide_eq_false (by omega)
    have hkc : decide (1 + (ys.length : Int) < 0) = false := decide_eq_false (by omega)
    go_enter Try.func4, Try.ntmps4
    go_upto_region 6 with (first
      | (go_at_call 9; refine (szPlace_any _ _ _ _ hl).mono ?_; rintro e v1 ⟨rfl, hb1⟩; rw [hz]; have hbw : Below w.heap.size w v1 := below_two (by go_grown) hb1; have DP : Hid (Qc v1 (w.heap.size) wd0 fl0 (.slice a0 xs0.length cap0)) := DP0.out.next hb1; have p0 : v1.cell? ⟨w.heap.size, 0, none⟩ = some (.int .i64 wd0) := DP.out.c0; have p1 : v1.cell? ⟨w.heap.size, 1, none⟩ = some (.int .i64 fl0) := DP.out.c1; have p2 : v1.cell? ⟨w.heap.size, 2, none⟩ = some (.slice a0 xs0.length cap0) := DP.out.c2)
      | (go_at_call 11; refine (toPlace_any cap0 (hs0.here hbw) hs).mono ?_; rintro e v2 ⟨g2, rfl, g20, g21, f2, hb2⟩; have hbw : Below w.heap.size w v2 := below_two hbw hb2; clear p0 p1 p2; have DP : Hid (Qc v2 (w.heap.size) wd0 fl0 (.slice a0 xs0.length cap0)) := DP.out.next hb2; have p0 : v2.cell? ⟨w.heap.size, 0, none⟩ = some (.int .i64 wd0) := DP.out.c0; have p1 : v2.cell? ⟨w.heap.size, 1, none⟩ = some (.int .i64 fl0) := DP.out.c1; have p2 : v2.cell? ⟨w.heap.size, 2, none⟩ = some (.slice a0 xs0.length cap0) := DP.out.c2; have sm2 := f2.smp g21)
      | (go_at_call 16; refine (HSP.out _ _ _ sm2 (Nat.le_refl _)).mono ?_; rintro e v3 ⟨a12, n12, c12, rfl, fv12, hb3⟩; have hbw : Below w.heap.size w v3 := below_two hbw hb3; clear p0 p1 p2; have DP : Hid (Qc v3 (w.heap.size) wd0 fl0 (.slice a0 xs0.length cap0)) := DP.out.next hb3; have p0 : v3.cell? ⟨w.heap.size, 0, none⟩ = some (.int .i64 wd0) := DP.out.c0; have p1 : v3.cell? ⟨w.heap.size, 1, none⟩ = some (.int .i64 fl0) := DP.out.c1; have p2 : v3.cell? ⟨w.heap.size, 2, none⟩ = some (.slice a0 xs0.length cap0) := DP.out.c2))
    have u12 : ∀ g, (Value.slice a12 n12 c12).ownBlock = some g → v2.heap.size ≤ g ∧ g < v3.heap.size := fun g hg => fv12.own hg
    obtain ⟨v3b, hv3b⟩ : ∃ x, x = v3.alloc (.cells #[.int .i64 zd, .int .i64 zf, .slice a12 n12 c12] 26) := ⟨_, rfl⟩
    obtain ⟨b12, eb12⟩ : ∃ b, b = v3.heap.size := ⟨_, rfl⟩
    rw [← hv3b, ← eb12]
    have yb12 : v3.heap.size ≤ b12 := by omega
    have ub12 : b12 < v3b.heap.size := by rw [hv3b, eb12]; simp
    have kv3b : Below v3.heap.size v3 v3b := by rw [hv3b]; exact new_below _ _
    have DA : Hid (Qc v3b (b12) zd zf (.slice a12 n12 c12)) := by rw [hv3b, eb12]; exact qc_new _ zd zf _ _
    clear hv3b eb12
    have hbw : Below w.heap.size w v3b := below_two hbw kv3b; clear p0 p1 p2
    have DP : Hid (Qc v3b (w.heap.size) wd0 fl0 (.slice a0 xs0.length cap0)) := DP.out.next kv3b
    have p0 : v3b.cell? ⟨w.heap.size, 0, none⟩ = some (.int .i64 wd0) := DP.out.c0
    have p1 : v3b.cell? ⟨w.heap.size, 1, none⟩ = some (.int .i64 fl0) := DP.out.c1
    have p2 : v3b.cell? ⟨w.heap.size, 2, none⟩ = some (.slice a0 xs0.length cap0) := DP.out.c2
    have fv12 := fv12.next kv3b
    have q0 : v3b.cell? ⟨b12, 0, none⟩ = some (.int .i64 zd) := DA.out.c0
    have q1 : v3b.cell? ⟨b12, 1, none⟩ = some (.int .i64 zf) := DA.out.c1
    have q2 : v3b.cell? ⟨b12, 2, none⟩ = some (.slice a12 n12 c12) := DA.out.c2
    have wz : w.heap.size < v3b.heap.size := DP.out.z
    have zs3 := kv3b.size
    go_upto_region 7 with (first
      | (go_at_call 11; refine (toPlace_any cap0 (hs0.here hbw) hs).mono ?_; rintro e v4 ⟨gx, rfl, gx0, gx1, fx, hb4⟩; have hbw : Below w.heap.size w v4 := below_two hbw hb4; clear p0 p1 p2; have DP : Hid (Qc v4 (w.heap.size) wd0 fl0 (.slice a0 xs0.length cap0)) := DP.out.next hb4; have p0 : v4.cell? ⟨w.heap.size, 0, none⟩ = some (.int .i64 wd0) := DP.out.c0; have p1 : v4.cell? ⟨w.heap.size, 1, none⟩ = some (.int .i64 fl0) := DP.out.c1; have p2 : v4.cell? ⟨w.heap.size, 2, none⟩ = some (.slice a0 xs0.length cap0) := DP.out.c2; clear q0 q1 q2; have DA : Hid (Qc v4 (b12) zd zf (.slice a12 n12 c12)) := DA.out.next hb4; have q0 : v4.cell? ⟨b12, 0, none⟩ = some (.int .i64 zd) := DA.out.c0; have q1 : v4.cell? ⟨b12, 1, none⟩ = some (.int .i64 zf) := DA.out.c1; have q2 : v4.cell? ⟨b12, 2, none⟩ = some (.slice a12 n12 c12) := DA.out.c2; have fv12 := fv12.next hb4))
    have fvx : IV v4 v3b.heap.size (.slice (some ⟨gx, 0, none⟩) xs0.length xs0.length) xs0 := .inl ⟨gx, _, rfl, gx0, gx1, fx, Nat.le_refl _⟩
    have sx := fx.smp gx1
    obtain ⟨v5, hv5⟩ : ∃ x, x = v4.alloc (.cells #[.int .i64 wd0, .int .i64 fl0, .slice (some ⟨gx, 0, none⟩) xs0.length xs0.length] 26) := ⟨_, rfl⟩
    obtain ⟨bx, ebx⟩ : ∃ b, b = v4.heap.size := ⟨_, rfl⟩
    rw [← hv5, ← ebx]
    have ybx : v4.heap.size ≤ bx := by omega
    have ubx : bx < v5.heap.size := by rw [hv5, ebx]; simp
    have kv5 : Below v4.heap.size v4 v5 := by rw [hv5]; exact new_below _ _
    have DX : Hid (Qc v5 (bx) wd0 fl0 (.slice (some ⟨gx, 0, none⟩) xs0.length xs0.length)) := by rw [hv5, ebx]; exact qc_new _ wd0 fl0 _ _
    clear hv5 ebx
    have hbw : Below w.heap.size w v5 := below_two hbw kv5; clear p0 p1 p2
    have DP : Hid (Qc v5 (w.heap.size) wd0 fl0 (.slice a0 xs0.length cap0)) := DP.out.next kv5
    have p0 : v5.cell? ⟨w.heap.size, 0, none⟩ = some (.int .i64 wd0) := DP.out.c0
    have p1 : v5.cell? ⟨w.heap.size, 1, none⟩ = some (.int .i64 fl0) := DP.out.c1
    have p2 : v5.cell? ⟨w.heap.size, 2, none⟩ = some (.slice a0 xs0.length cap0) := DP.out.c2; clear q0 q1 q2
    have DA : Hid (Qc v5 (b12) zd zf (.slice a12 n12 c12)) := DA.out.next kv5
    have q0 : v5.cell? ⟨b12, 0, none⟩ = some (.int .i64 zd) := DA.out.c0
    have q1 : v5.cell? ⟨b12, 1, none⟩ = some (.int .i64 zf) := DA.out.c1
    have q2 : v5.cell? ⟨b12, 2, none⟩ = some (.slice a12 n12 c12) := DA.out.c2
    have fv12 := fv12.next kv5
    have fvx := fvx.next kv5
    have xx0 : v5.cell? ⟨bx, 0, none⟩ = some (.int .i64 wd0) := DX.out.c0
    have xx1 : v5.cell? ⟨bx, 1, none⟩ = some (.int .i64 fl0) := DX.out.c1
    have xx2 : v5.cell? ⟨bx, 2, none⟩ = some (.slice (some ⟨gx, 0, none⟩) xs0.length xs0.length) := DX.out.c2
    have sx := sx.here kv5
    have zs5 := kv5.size
    go_upto_region 8 with (first
      | (go_at_call 17; refine (HIM.out _ _ _ sx (Nat.le_refl _)).mono ?_; rintro e v6 ⟨a14, n14, c14, rfl, fv14, hb6⟩; have hbw : Below w.heap.size w v6 := below_two hbw hb6; clear p0 p1 p2; have DP : Hid (Qc v6 (w.heap.size) wd0 fl0 (.slice a0 xs0.length cap0)) := DP.out.next hb6; have p0 : v6.cell? ⟨w.heap.size, 0, none⟩ = some (.int .i64 wd0) := DP.out.c0; have p1 : v6.cell? ⟨w.heap.size, 1, none⟩ = some (.int .i64 fl0) := DP.out.c1; have p2 : v6.cell? ⟨w.heap.size, 2, none⟩ = some (.slice a0 xs0.length cap0) := DP.out.c2; clear q0 q1 q2; have DA : Hid (Qc v6 (b12) zd zf (.slice a12 n12 c12)) := DA.out.next hb6; have q0 : v6.cell? ⟨b12, 0, none⟩ = some (.int .i64 zd) := DA.out.c0; have q1 : v6.cell? ⟨b12, 1, none⟩ = some (.int .i64 zf) := DA.out.c1; have q2 : v6.cell? ⟨b12, 2, none⟩ = some (.slice a12 n12 c12) := DA.out.c2; clear xx0 xx1 xx2; have DX : Hid (Qc v6 (bx) wd0 fl0 (.slice (some ⟨gx, 0, none⟩) xs0.length xs0.length)) := DX.out.next hb6; have xx0 : v6.cell? ⟨bx, 0, none⟩ = some (.int .i64 wd0) := DX.out.c0; have xx1 : v6.cell? ⟨bx, 1, none⟩ = some (.int .i64 fl0) := DX.out.c1; have xx2 : v6.cell? ⟨bx, 2, none⟩ = some (.slice (some ⟨gx, 0, none⟩) xs0.length xs0.length) := DX.out.c2; have fv12 := fv12.next hb6; have fvx := fvx.next hb6))
    have u14 : ∀ g, (Value.slice a14 n14 c14).ownBlock = some g → v5.heap.size ≤ g ∧ g < v6.heap.size := fun g hg => fv14.own hg
    have zs6 := hb6.size
    obtain ⟨v7, hv7⟩ : ∃ x, x = v6.alloc (.cells #[.int .i64 zd, .int .i64 zf, .slice a14 n14 c14] 26) := ⟨_, rfl⟩
    obtain ⟨b14, eb14⟩ : ∃ b, b = v6.heap.size := ⟨_, rfl⟩
    rw [← hv7, ← eb14]
    have yb14 : v6.heap.size ≤ b14 := by omega
    have ub14 : b14 < v7.heap.size := by rw [hv7, eb14]; simp
    have kv7 : Below v6.heap.size v6 v7 := by rw [hv7]; exact new_below _ _
    have DG : Hid (Qc v7 (b14) zd zf (.slice a14 n14 c14)) := by rw [hv7, eb14]; exact qc_new _ zd zf _ _
    clear hv7 eb14
    have hbw : Below w.heap.size w v7 := below_two hbw kv7; clear p0 p1 p2
    have DP : Hid (Qc v7 (w.heap.size) wd0 fl0 (.slice a0 xs0.length cap0)) := DP.out.next kv7
    have p0 : v7.cell? ⟨w.heap.size, 0, none⟩ = some (.int .i64 wd0) := DP.out.c0
    have p1 : v7.cell? ⟨w.heap.size, 1, none⟩ = some (.int .i64 fl0) := DP.out.c1
    have p2 : v7.cell? ⟨w.heap.size, 2, none⟩ = some (.slice a0 xs0.length cap0) := DP.out.c2; clear q0 q1 q2
    have DA : Hid (Qc v7 (b12) zd zf (.slice a12 n12 c12)) := DA.out.next kv7
    have q0 : v7.cell? ⟨b12, 0, none⟩ = some (.int .i64 zd) := DA.out.c0
    have q1 : v7.cell? ⟨b12, 1, none⟩ = some (.int .i64 zf) := DA.out.c1
    have q2 : v7.cell? ⟨b12, 2, none⟩ = some (.slice a12 n12 c12) := DA.out.c2; clear xx0 xx1 xx2
    have DX : Hid (Qc v7 (bx) wd0 fl0 (.slice (some ⟨gx, 0, none⟩) xs0.length xs0.length)) := DX.out.next kv7
    have xx0 : v7.cell? ⟨bx, 0, none⟩ = some (.int .i64 wd0) := DX.out.c0
    have xx1 : v7.cell? ⟨bx, 1, none⟩ = some (.int .i64 fl0) := DX.out.c1
    have xx2 : v7.cell? ⟨bx, 2, none⟩ = some (.slice (some ⟨gx, 0, none⟩) xs0.length xs0.length) := DX.out.c2
    have fv12 := fv12.next kv7
    have fvx := fvx.next kv7
    have fv14 := fv14.next kv7
    have g0 : v7.cell? ⟨b14, 0, none⟩ = some (.int .i64 zd) := DG.out.c0
    have g1 : v7.cell? ⟨b14, 1, none⟩ = some (.int .i64 zf) := DG.out.c1
    have g2 : v7.cell? ⟨b14, 2, none⟩ = some (.slice a14 n14 c14) := DG.out.c2
    have zs7 := kv7.size
    go_upto_region 10 with (first
      | (go_at_call 13; refine (eqPlace_same fv14 fv12 (by omega)).mono ?_; rintro e v8 ⟨rfl, hb8⟩; have hbw : Below w.heap.size w v8 := below_two hbw hb8; clear p0 p1 p2; have DP : Hid (Qc v8 (w.heap.size) wd0 fl0 (.slice a0 xs0.length cap0)) := DP.out.next hb8; have p0 : v8.cell? ⟨w.heap.size, 0, none⟩ = some (.int .i64 wd0) := DP.out.c0; have p1 : v8.cell? ⟨w.heap.size, 1, none⟩ = some (.int .i64 fl0) := DP.out.c1; have p2 : v8.cell? ⟨w.heap.size, 2, none⟩ = some (.slice a0 xs0.length cap0) := DP.out.c2; clear q0 q1 q2; have DA : Hid (Qc v8 (b12) zd zf (.slice a12 n12 c12)) := DA.out.next hb8; have q0 : v8.cell? ⟨b12, 0, none⟩ = some (.int .i64 zd) := DA.out.c0; have q1 : v8.cell? ⟨b12, 1, none⟩ = some (.int .i64 zf) := DA.out.c1; have q2 : v8.cell? ⟨b12, 2, none⟩ = some (.slice a12 n12 c12) := DA.out.c2; clear xx0 xx1 xx2; have DX : Hid (Qc v8 (bx) wd0 fl0 (.slice (some ⟨gx, 0, none⟩) xs0.length xs0.length)) := DX.out.next hb8; have xx0 : v8.cell? ⟨bx, 0, none⟩ = some (.int .i64 wd0) := DX.out.c0; have xx1 : v8.cell? ⟨bx, 1, none⟩ = some (.int .i64 fl0) := DX.out.c1; have xx2 : v8.cell? ⟨bx, 2, none⟩ = some (.slice (some ⟨gx, 0, none⟩) xs0.length xs0.length) := DX.out.c2; clear g0 g1 g2; have DG : Hid (Qc v8 (b14) zd zf (.slice a14 n14 c14)) := DG.out.next hb8; have g0 : v8.cell? ⟨b14, 0, none⟩ = some (.int .i64 zd) := DG.out.c0; have g1 : v8.cell? ⟨b14, 1, none⟩ = some (.int .i64 zf) := DG.out.c1; have g2 : v8.cell? ⟨b14, 2, none⟩ = some (.slice a14 n14 c14) := DG.out.c2; have fv12 := fv12.next hb8; have fvx := fvx.next hb8; have fv14 := fv14.next hb8))
    have HS : Hid (∀ w', Below v8.heap.size v8 w' → (fun w' => w'.cell? ⟨w.heap.size, 0, none⟩ = some (.int .i64 wd0) ∧ w'.cell? ⟨w.heap.size, 1, none⟩ = some (.int .i64 fl0) ∧ w'.cell? ⟨w.heap.size, 2, none⟩ = some (.slice a0 xs0.length cap0) ∧ w'.cell? ⟨bx, 0, none⟩ = some (.int .i64 wd0) ∧ w'.cell? ⟨bx, 1, none⟩ = some (.int .i64 fl0) ∧ w'.cell? ⟨bx, 2, none⟩ = some (.slice (some ⟨gx, 0, none⟩) xs0.length xs0.length)) w') := fun w' h => ⟨(DP.out.next h).c0, (DP.out.next h).c1, (DP.out.next h).c2, (DX.out.next h).c0, (DX.out.next h).c1, (DX.out.next h).c2⟩
    have hr : Below v8.heap.size v8 v8.drew := (Below.refl _ _).drew
    refine wp_region_held_drew (S := fun w' => w'.cell? ⟨w.heap.size, 0, none⟩ = some (.int .i64 wd0) ∧ w'.cell? ⟨w.heap.size, 1, none⟩ = some (.int .i64 fl0) ∧ w'.cell? ⟨w.heap.size, 2, none⟩ = some (.slice a0 xs0.length cap0) ∧ w'.cell? ⟨bx, 0, none⟩ = some (.int .i64 wd0) ∧ w'.cell? ⟨bx, 1, none⟩ = some (.int .i64 fl0) ∧ w'.cell? ⟨bx, 2, none⟩ = some (.slice (some ⟨gx, 0, none⟩) xs0.length xs0.length)) (by kernel_rfl) (HS.out _ hr) (fun hS => ?_)
    refine wpAnyH_take (i := 0) (v := ?_) rfl (by kernel_rfl) (by kernel_rfl) (by kernel_rfl) (fun _ _ _ h => h) (Or.inl ⟨by rfl, ?_⟩) (by assumption) ?_
    rotate_left 1
    · (intro w' hSw; (try dsimp only at hSw); go_simp; try with_reducible rfl)
    try simp only [Act.put, List.setIfInBounds_toArray, List.set_cons_zero, List.set_cons_succ, List.getElem_toArray, List.getElem_cons_succ, List.getElem_cons_zero]
    refine wpAnyH_take (i := 1) (v := ?_) rfl (by kernel_rfl) (by kernel_rfl) (by kernel_rfl) (fun _ _ _ h => h) (Or.inl ⟨by rfl, ?_⟩) (by assumption) ?_
    rotate_left 1
    · (intro w' hSw; (try dsimp only at hSw); go_simp; try with_reducible rfl)
    try simp only [Act.put, List.setIfInBounds_toArray, List.set_cons_zero, List.set_cons_succ, List.getElem_toArray, List.getElem_cons_succ, List.getElem_cons_zero]
    refine wpAnyH_ready (rs := [2]) (by kernel_rfl) (by simp) (AllReadyH.cons rfl (fun K hK => ?_) AllReadyH.nil)
    go_simp
    (refine (toPlace_any cap0 (hs0.here (below_two hbw hr)) hs).mono ?_; rintro e x1 ⟨gF, rfl, gF0, gF1, fF, hbq⟩; have fvF : IV x1 _ (.slice (some ⟨gF, 0, none⟩) xs0.length xs0.length) xs0 := .inl ⟨gF, _, rfl, gF0, gF1, fF, Nat.le_refl _⟩; have hr := hr.trans (hbq.mono hr.size); have hSq := HS.out _ hr)
    refine hK.out _ _ (by assumption) (fun _ => ?_)
    try simp only [Act.put, List.setIfInBounds_toArray, List.set_cons_zero, List.set_cons_succ, List.getElem_toArray, List.getElem_cons_succ, List.getElem_cons_zero]
    refine wpAnyH_ready (rs := [3]) (by kernel_rfl) (by simp) (AllReadyH.cons rfl (fun K hK => ?_) AllReadyH.nil)
    go_simp
    (refine (eqPlace_same (fvx.next hr) fvF (by omega)).mono ?_; rintro e x2 ⟨rfl, hbq⟩; have hr := hr.trans (hbq.mono hr.size); have hSq := HS.out _ hr)
    refine hK.out _ _ (by assumption) (fun _ => ?_)
    try simp only [Act.put, List.setIfInBounds_toArray, List.set_cons_zero, List.set_cons_succ, List.getElem_toArray, List.getElem_cons_succ, List.getElem_cons_zero]
    refine wpAnyH_take (i := 4) (v := ?_) rfl (by kernel_rfl) (by kernel_rfl) (by kernel_rfl) (fun _ _ _ h => h) (Or.inl ⟨by rfl, ?_⟩) (by assumption) ?_
    rotate_left 1
    · (intro w' hSw; (try dsimp only at hSw); go_simp; try with_reducible rfl)
    try simp only [Act.put, List.setIfInBounds_toArray, List.set_cons_zero, List.set_cons_succ, List.getElem_toArray, List.getElem_cons_succ, List.getElem_cons_zero]
    refine wpAnyH_done (by kernel_rfl) ?_ _
    have hbw : Below w.heap.size w x2 := below_two hbw hr
    clear p0 p1 p2
    have DP : Hid (Qc x2 (w.heap.size) wd0 fl0 (.slice a0 xs0.length cap0)) := DP.out.next hr
    have p0 : x2.cell? ⟨w.heap.size, 0, none⟩ = some (.int .i64 wd0) := DP.out.c0
    have p1 : x2.cell? ⟨w.heap.size, 1, none⟩ = some (.int .i64 fl0) := DP.out.c1
    have p2 : x2.cell? ⟨w.heap.size, 2, none⟩ = some (.slice a0 xs0.length cap0) := DP.out.c2
    clear q0 q1 q2
    have DA : Hid (Qc x2 (b12) zd zf (.slice a12 n12 c12)) := DA.out.next hr
    have q0 : x2.cell? ⟨b12, 0, none⟩ = some (.int .i64 zd) := DA.out.c0
    have q1 : x2.cell? ⟨b12, 1, none⟩ = some (.int .i64 zf) := DA.out.c1
    have q2 : x2.cell? ⟨b12, 2, none⟩ = some (.slice a12 n12 c12) := DA.out.c2
    clear xx0 xx1 xx2
    have DX : Hid (Qc x2 (bx) wd0 fl0 (.slice (some ⟨gx, 0, none⟩) xs0.length xs0.length)) := DX.out.next hr
    have xx0 : x2.cell? ⟨bx, 0, none⟩ = some (.int .i64 wd0) := DX.out.c0
    have xx1 : x2.cell? ⟨bx, 1, none⟩ = some (.int .i64 fl0) := DX.out.c1
    have xx2 : x2.cell? ⟨bx, 2, none⟩ = some (.slice (some ⟨gx, 0, none⟩) xs0.length xs0.length) := DX.out.c2
    clear g0 g1 g2
    have DG : Hid (Qc x2 (b14) zd zf (.slice a14 n14 c14)) := DG.out.next hr
    have g0 : x2.cell? ⟨b14, 0, none⟩ = some (.int .i64 zd) := DG.out.c0
    have g1 : x2.cell? ⟨b14, 1, none⟩ = some (.int .i64 zf) := DG.out.c1
    have g2 : x2.cell? ⟨b14, 2, none⟩ = some (.slice a14 n14 c14) := DG.out.c2
    have fv12 := fv12.next hr
    have fvx := fvx.next hr
    have fv14 := fv14.next hr
    have zs8 : v7.heap.size ≤ x2.heap.size := Nat.le_trans hb8.size hr.size
    clear hr hSq HS
    go_upto_region 14 with (first
      | (go_at_call 14; refine (markPlace_any 1 fvx hs (by omega) (by omega)).mono ?_; rintro e v9 ⟨rfl, fmx, ho9⟩; have hbw := hbw.trans (ho9.below (fun g hg => (by have e' : gx = g := Option.some.inj hg; omega)) (by omega)); clear p0 p1 p2; have DP : Hid (Qc v9 (w.heap.size) wd0 fl0 (.slice a0 xs0.length cap0)) := DP.out.onlyO ho9 (fun e => (by have e' : gx = w.heap.size := Option.some.inj e; omega)); have p0 : v9.cell? ⟨w.heap.size, 0, none⟩ = some (.int .i64 wd0) := DP.out.c0; have p1 : v9.cell? ⟨w.heap.size, 1, none⟩ = some (.int .i64 fl0) := DP.out.c1; have p2 : v9.cell? ⟨w.heap.size, 2, none⟩ = some (.slice a0 xs0.length cap0) := DP.out.c2; clear q0 q1 q2; have DA : Hid (Qc v9 (b12) zd zf (.slice a12 n12 c12)) := DA.out.onlyO ho9 (fun e => (by have e' : gx = b12 := Option.some.inj e; omega)); have q0 : v9.cell? ⟨b12, 0, none⟩ = some (.int .i64 zd) := DA.out.c0; have q1 : v9.cell? ⟨b12, 1, none⟩ = some (.int .i64 zf) := DA.out.c1; have q2 : v9.cell? ⟨b12, 2, none⟩ = some (.slice a12 n12 c12) := DA.out.c2; clear xx0 xx1 xx2; have DX : Hid (Qc v9 (bx) wd0 fl0 (.slice (some ⟨gx, 0, none⟩) xs0.length xs0.length)) := DX.out.onlyO ho9 (fun e => (by have e' : gx = bx := Option.some.inj e; omega)); have xx0 : v9.cell? ⟨bx, 0, none⟩ = some (.int .i64 wd0) := DX.out.c0; have xx1 : v9.cell? ⟨bx, 1, none⟩ = some (.int .i64 fl0) := DX.out.c1; have xx2 : v9.cell? ⟨bx, 2, none⟩ = some (.slice (some ⟨gx, 0, none⟩) xs0.length xs0.length) := DX.out.c2; clear g0 g1 g2; have DG : Hid (Qc v9 (b14) zd zf (.slice a14 n14 c14)) := DG.out.onlyO ho9 (fun e => (by have e' : gx = b14 := Option.some.inj e; omega)); have g0 : v9.cell? ⟨b14, 0, none⟩ = some (.int .i64 zd) := DG.out.c0; have g1 : v9.cell? ⟨b14, 1, none⟩ = some (.int .i64 zf) := DG.out.c1; have g2 : v9.cell? ⟨b14, 2, none⟩ = some (.slice a14 n14 c14) := DG.out.c2; have fv12 := fv12.onlyO ho9 (fun g hg e => (by have := u12 g hg; have e' : gx = g := Option.some.inj e; omega)); have fv14 := fv14.onlyO ho9 (fun g hg e => (by have := u14 g hg; have e' : gx = g := Option.some.inj e; omega)); have zs9 := ho9.size))
    go_upto_region 17 with (first
      | (go_at_call 13; refine (eqPlace_same fv14 fv12 (by omega)).mono ?_; rintro e v10 ⟨rfl, hb10⟩; have hbw : Below w.heap.size w v10 := below_two hbw hb10; clear p0 p1 p2; have DP : Hid (Qc v10 (w.heap.size) wd0 fl0 (.slice a0 xs0.length cap0)) := DP.out.next hb10; have p0 : v10.cell? ⟨w.heap.size, 0, none⟩ = some (.int .i64 wd0) := DP.out.c0; have p1 : v10.cell? ⟨w.heap.size, 1, none⟩ = some (.int .i64 fl0) := DP.out.c1; have p2 : v10.cell? ⟨w.heap.size, 2, none⟩ = some (.slice a0 xs0.length cap0) := DP.out.c2; clear q0 q1 q2; have DA : Hid (Qc v10 (b12) zd zf (.slice a12 n12 c12)) := DA.out.next hb10; have q0 : v10.cell? ⟨b12, 0, none⟩ = some (.int .i64 zd) := DA.out.c0; have q1 : v10.cell? ⟨b12, 1, none⟩ = some (.int .i64 zf) := DA.out.c1; have q2 : v10.cell? ⟨b12, 2, none⟩ = some (.slice a12 n12 c12) := DA.out.c2; clear xx0 xx1 xx2; have DX : Hid (Qc v10 (bx) wd0 fl0 (.slice (some ⟨gx, 0, none⟩) xs0.length xs0.length)) := DX.out.next hb10; have xx0 : v10.cell? ⟨bx, 0, none⟩ = some (.int .i64 wd0) := DX.out.c0; have xx1 : v10.cell? ⟨bx, 1, none⟩ = some (.int .i64 fl0) := DX.out.c1; have xx2 : v10.cell? ⟨bx, 2, none⟩ = some (.slice (some ⟨gx, 0, none⟩) xs0.length xs0.length) := DX.out.c2; clear g0 g1 g2; have DG : Hid (Qc v10 (b14) zd zf (.slice a14 n14 c14)) := DG.out.next hb10; have g0 : v10.cell? ⟨b14, 0, none⟩ = some (.int .i64 zd) := DG.out.c0; have g1 : v10.cell? ⟨b14, 1, none⟩ = some (.int .i64 zf) := DG.out.c1; have g2 : v10.cell? ⟨b14, 2, none⟩ = some (.slice a14 n14 c14) := DG.out.c2; have fv12 := fv12.next hb10; have fv14 := fv14.next hb10))
    go_upto_region 18 with (first
      | (go_at_call 14; refine (markPlace_any 1 fv14 (by omega) (by omega) (by omega)).mono ?_; rintro e v11 ⟨rfl, fm14, ho11⟩; have hbw := hbw.trans (ho11.below (fun g hg => (by have := u14 g hg; omega)) (by have := hb10.size; omega)); clear p0 p1 p2; have DP : Hid (Qc v11 (w.heap.size) wd0 fl0 (.slice a0 xs0.length cap0)) := DP.out.onlyO ho11 (fun e => (by have := u14 _ e; omega)); have p0 : v11.cell? ⟨w.heap.size, 0, none⟩ = some (.int .i64 wd0) := DP.out.c0; have p1 : v11.cell? ⟨w.heap.size, 1, none⟩ = some (.int .i64 fl0) := DP.out.c1; have p2 : v11.cell? ⟨w.heap.size, 2, none⟩ = some (.slice a0 xs0.length cap0) := DP.out.c2; clear q0 q1 q2; have DA : Hid (Qc v11 (b12) zd zf (.slice a12 n12 c12)) := DA.out.onlyO ho11 (fun e => (by have := u14 _ e; omega)); have q0 : v11.cell? ⟨b12, 0, none⟩ = some (.int .i64 zd) := DA.out.c0; have q1 : v11.cell? ⟨b12, 1, none⟩ = some (.int .i64 zf) := DA.out.c1; have q2 : v11.cell? ⟨b12, 2, none⟩ = some (.slice a12 n12 c12) := DA.out.c2; clear xx0 xx1 xx2; have DX : Hid (Qc v11 (bx) wd0 fl0 (.slice (some ⟨gx, 0, none⟩) xs0.length xs0.length)) := DX.out.onlyO ho11 (fun e => (by have := u14 _ e; omega)); have xx0 : v11.cell? ⟨bx, 0, none⟩ = some (.int .i64 wd0) := DX.out.c0; have xx1 : v11.cell? ⟨bx, 1, none⟩ = some (.int .i64 fl0) := DX.out.c1; have xx2 : v11.cell? ⟨bx, 2, none⟩ = some (.slice (some ⟨gx, 0, none⟩) xs0.length xs0.length) := DX.out.c2; clear g0 g1 g2; have DG : Hid (Qc v11 (b14) zd zf (.slice a14 n14 c14)) := DG.out.onlyO ho11 (fun e => (by have := u14 _ e; omega)); have g0 : v11.cell? ⟨b14, 0, none⟩ = some (.int .i64 zd) := DG.out.c0; have g1 : v11.cell? ⟨b14, 1, none⟩ = some (.int .i64 zf) := DG.out.c1; have g2 : v11.cell? ⟨b14, 2, none⟩ = some (.slice a14 n14 c14) := DG.out.c2; have fv12 := fv12.onlyO ho11 (fun g hg e => (by have := u12 g hg; have := u14 g e; omega))))
    go_upto_region 24 with (first
      | (go_at_call 15; refine (heldPlace_any 1 fm14 (by omega) (by omega) (by omega)).mono ?_; rintro e v12 ⟨rfl, hb12⟩; have hbw : Below w.heap.size w v12 := below_two hbw hb12; clear p0 p1 p2; have DP : Hid (Qc v12 (w.heap.size) wd0 fl0 (.slice a0 xs0.length cap0)) := DP.out.next hb12; have p0 : v12.cell? ⟨w.heap.size, 0, none⟩ = some (.int .i64 wd0) := DP.out.c0; have p1 : v12.cell? ⟨w.heap.size, 1, none⟩ = some (.int .i64 fl0) := DP.out.c1; have p2 : v12.cell? ⟨w.heap.size, 2, none⟩ = some (.slice a0 xs0.length cap0) := DP.out.c2; clear q0 q1 q2; have DA : Hid (Qc v12 (b12) zd zf (.slice a12 n12 c12)) := DA.out.next hb12; have q0 : v12.cell? ⟨b12, 0, none⟩ = some (.int .i64 zd) := DA.out.c0; have q1 : v12.cell? ⟨b12, 1, none⟩ = some (.int .i64 zf) := DA.out.c1; have q2 : v12.cell? ⟨b12, 2, none⟩ = some (.slice a12 n12 c12) := DA.out.c2; clear xx0 xx1 xx2; have DX : Hid (Qc v12 (bx) wd0 fl0 (.slice (some ⟨gx, 0, none⟩) xs0.length xs0.length)) := DX.out.next hb12; have xx0 : v12.cell? ⟨bx, 0, none⟩ = some (.int .i64 wd0) := DX.out.c0; have xx1 : v12.cell? ⟨bx, 1, none⟩ = some (.int .i64 fl0) := DX.out.c1; have xx2 : v12.cell? ⟨bx, 2, none⟩ = some (.slice (some ⟨gx, 0, none⟩) xs0.length xs0.length) := DX.out.c2; clear g0 g1 g2; have DG : Hid (Qc v12 (b14) zd zf (.slice a14 n14 c14)) := DG.out.next hb12; have g0 : v12.cell? ⟨b14, 0, none⟩ = some (.int .i64 zd) := DG.out.c0; have g1 : v12.cell? ⟨b14, 1, none⟩ = some (.int .i64 zf) := DG.out.c1; have g2 : v12.cell? ⟨b14, 2, none⟩ = some (.slice a14 n14 c14) := DG.out.c2; have fv12 := fv12.next hb12; have fm14 := fm14.next hb12))
    go_upto_region 25 with (first
      | (go_at_call 11; refine (toPlace_any cap0 (hs0.here hbw) hs).mono ?_; rintro e v13 ⟨g13, rfl, g130, g131, f13, hb13⟩; have hbw : Below w.heap.size w v13 := below_two hbw hb13; clear p0 p1 p2; have DP : Hid (Qc v13 (w.heap.size) wd0 fl0 (.slice a0 xs0.length cap0)) := DP.out.next hb13; have p0 : v13.cell? ⟨w.heap.size, 0, none⟩ = some (.int .i64 wd0) := DP.out.c0; have p1 : v13.cell? ⟨w.heap.size, 1, none⟩ = some (.int .i64 fl0) := DP.out.c1; have p2 : v13.cell? ⟨w.heap.size, 2, none⟩ = some (.slice a0 xs0.length cap0) := DP.out.c2; clear q0 q1 q2; have DA : Hid (Qc v13 (b12) zd zf (.slice a12 n12 c12)) := DA.out.next hb13; have q0 : v13.cell? ⟨b12, 0, none⟩ = some (.int .i64 zd) := DA.out.c0; have q1 : v13.cell? ⟨b12, 1, none⟩ = some (.int .i64 zf) := DA.out.c1; have q2 : v13.cell? ⟨b12, 2, none⟩ = some (.slice a12 n12 c12) := DA.out.c2; clear g0 g1 g2; have DG : Hid (Qc v13 (b14) zd zf (.slice a14 n14 c14)) := DG.out.next hb13; have g0 : v13.cell? ⟨b14, 0, none⟩ = some (.int .i64 zd) := DG.out.c0; have g1 : v13.cell? ⟨b14, 1, none⟩ = some (.int .i64 zf) := DG.out.c1; have g2 : v13.cell? ⟨b14, 2, none⟩ = some (.slice a14 n14 c14) := DG.out.c2; have fv12 := fv12.next hb13; have fm14 := fm14.next hb13; have sm13 := f13.smp g131)
      | (go_at_call 17; refine (HIM.out _ _ _ sm13 (Nat.le_refl _)).mono ?_; rintro e v14 ⟨a18, n18, c18, rfl, fv18, hb14⟩; have hbw : Below w.heap.size w v14 := below_two hbw hb14; clear p0 p1 p2; have DP : Hid (Qc v14 (w.heap.size) wd0 fl0 (.slice a0 xs0.length cap0)) := DP.out.next hb14; have p0 : v14.cell? ⟨w.heap.size, 0, none⟩ = some (.int .i64 wd0) := DP.out.c0; have p1 : v14.cell? ⟨w.heap.size, 1, none⟩ = some (.int .i64 fl0) := DP.out.c1; have p2 : v14.cell? ⟨w.heap.size, 2, none⟩ = some (.slice a0 xs0.length cap0) := DP.out.c2; clear q0 q1 q2; have DA : Hid (Qc v14 (b12) zd zf (.slice a12 n12 c12)) := DA.out.next hb14; have q0 : v14.cell? ⟨b12, 0, none⟩ = some (.int .i64 zd) := DA.out.c0; have q1 : v14.cell? ⟨b12, 1, none⟩ = some (.int .i64 zf) := DA.out.c1; have q2 : v14.cell? ⟨b12, 2, none⟩ = some (.slice a12 n12 c12) := DA.out.c2; clear g0 g1 g2; have DG : Hid (Qc v14 (b14) zd zf (.slice a14 n14 c14)) := DG.out.next hb14; have g0 : v14.cell? ⟨b14, 0, none⟩ = some (.int .i64 zd) := DG.out.c0; have g1 : v14.cell? ⟨b14, 1, none⟩ = some (.int .i64 zf) := DG.out.c1; have g2 : v14.cell? ⟨b14, 2, none⟩ = some (.slice a14 n14 c14) := DG.out.c2; have fv12 := fv12.next hb14; have fm14 := fm14.next hb14))
    obtain ⟨v15, hv15⟩ : ∃ x, x = v14.alloc (.cells #[.int .i64 zd, .int .i64 zf, .slice a18 n18 c18] 26) := ⟨_, rfl⟩
    obtain ⟨b18, eb18⟩ : ∃ b, b = v14.heap.size := ⟨_, rfl⟩
    rw [← hv15, ← eb18]
    have yb18 : v14.heap.size ≤ b18 := by omega
    have ub18 : b18 < v15.heap.size := by rw [hv15, eb18]; simp
    have kv15 : Below v14.heap.size v14 v15 := by rw [hv15]; exact new_below _ _
    have DH : Hid (Qc v15 (b18) zd zf (.slice a18 n18 c18)) := by rw [hv15, eb18]; exact qc_new _ zd zf _ _
    clear hv15 eb18
    have hbw : Below w.heap.size w v15 := below_two hbw kv15; clear p0 p1 p2
    have DP : Hid (Qc v15 (w.heap.size) wd0 fl0 (.slice a0 xs0.length cap0)) := DP.out.next kv15
    have p0 : v15.cell? ⟨w.heap.size, 0, none⟩ = some (.int .i64 wd0) := DP.out.c0
    have p1 : v15.cell? ⟨w.heap.size, 1, none⟩ = some (.int .i64 fl0) := DP.out.c1
    have p2 : v15.cell? ⟨w.heap.size, 2, none⟩ = some (.slice a0 xs0.length cap0) := DP.out.c2; clear q0 q1 q2
    have DA : Hid (Qc v15 (b12) zd zf (.slice a12 n12 c12)) := DA.out.next kv15
    have q0 : v15.cell? ⟨b12, 0, none⟩ = some (.int .i64 zd) := DA.out.c0
    have q1 : v15.cell? ⟨b12, 1, none⟩ = some (.int .i64 zf) := DA.out.c1
    have q2 : v15.cell? ⟨b12, 2, none⟩ = some (.slice a12 n12 c12) := DA.out.c2; clear g0 g1 g2
    have DG : Hid (Qc v15 (b14) zd zf (.slice a14 n14 c14)) := DG.out.next kv15
    have g0 : v15.cell? ⟨b14, 0, none⟩ = some (.int .i64 zd) := DG.out.c0
    have g1 : v15.cell? ⟨b14, 1, none⟩ = some (.int .i64 zf) := DG.out.c1
    have g2 : v15.cell? ⟨b14, 2, none⟩ = some (.slice a14 n14 c14) := DG.out.c2
    have fv12 := fv12.next kv15
    have fm14 := fm14.next kv15
    have fv18 := fv18.next kv15
    have h0 : v15.cell? ⟨b18, 0, none⟩ = some (.int .i64 zd) := DH.out.c0
    have h1 : v15.cell? ⟨b18, 1, none⟩ = some (.int .i64 zf) := DH.out.c1
    have h2 : v15.cell? ⟨b18, 2, none⟩ = some (.slice a18 n18 c18) := DH.out.c2
    go_wp2_with (first
      | (go_at_call 13; refine (eqPlace_same fv18 fv12 (by omega)).mono ?_; rintro e v16 ⟨rfl, hb16⟩; have hbw : Below w.heap.size w v16 := below_two hbw hb16; clear p0 p1 p2; have DP : Hid (Qc v16 (w.heap.size) wd0 fl0 (.slice a0 xs0.length cap0)) := DP.out.next hb16; have p0 : v16.cell? ⟨w.heap.size, 0, none⟩ = some (.int .i64 wd0) := DP.out.c0; have p1 : v16.cell? ⟨w.heap.size, 1, none⟩ = some (.int .i64 fl0) := DP.out.c1; have p2 : v16.cell? ⟨w.heap.size, 2, none⟩ = some (.slice a0 xs0.length cap0) := DP.out.c2; clear q0 q1 q2; have DA : Hid (Qc v16 (b12) zd zf (.slice a12 n12 c12)) := DA.out.next hb16; have q0 : v16.cell? ⟨b12, 0, none⟩ = some (.int .i64 zd) := DA.out.c0; have q1 : v16.cell? ⟨b12, 1, none⟩ = some (.int .i64 zf) := DA.out.c1; have q2 : v16.cell? ⟨b12, 2, none⟩ = some (.slice a12 n12 c12) := DA.out.c2; clear g0 g1 g2; have DG : Hid (Qc v16 (b14) zd zf (.slice a14 n14 c14)) := DG.out.next hb16; have g0 : v16.cell? ⟨b14, 0, none⟩ = some (.int .i64 zd) := DG.out.c0; have g1 : v16.cell? ⟨b14, 1, none⟩ = some (.int .i64 zf) := DG.out.c1; have g2 : v16.cell? ⟨b14, 2, none⟩ = some (.slice a14 n14 c14) := DG.out.c2; have fv12 := fv12.next hb16; have fm14 := fm14.next hb16)
      | (go_at_call 15; refine (heldPlace_any 1 fm14 (by omega) (by omega) (by omega)).mono ?_; rintro e v17 ⟨rfl, hb17⟩; have hbw : Below w.heap.size w v17 := below_two hbw hb17))
    go_ret
    exact ⟨rfl, hbw⟩
  · have hz : (if xs0.length ≤ 1048576 then 1048576 - (xs0.length : Int) else -1) = -1 := if_neg hs
    go_enter Try.func4, Try.ntmps4
    go_wp2_with (first
      | (go_at_call 9; refine (szPlace_any _ _ _ _ hl).mono ?_; rintro e v1 ⟨rfl, hb1⟩; rw [hz]; have hbw : Below w.heap.size w v1 := below_two (by go_grown) hb1))
    go_ret
    exact ⟨rfl, hbw⟩

/-! ### THE ROW's STEP -/
set_option maxRecDepth 100000 in
theorem lifted (os : Os) (started : os.Started) (H : Type) (enc : TypeId × Value → H) :
    ReturnsInHanded {} Try.checked os 4 .any (Rows.fnExactQuitSpec.pre6 enc Try.prog Try.f4 Rows.fnExactQuitRow.domain false) (Rows.fnExactQuitSpec.post enc Try.prog Try.f4 false true false false) := by
  refine returnsInHanded_of_change (C := Try.checked) own started (by kernel_rfl) Try.func4
    (ChangeSpec.witness6 (enc := enc) (C := Try.checked) false ⟨#[], #[.agg #[.int .i64 0, .int .i64 0, .slice none 0 0], .int .i64 0, .int .i64 0], []⟩ 8 (by kernel_rfl) (by kernel_rfl) (by kernel_rfl) (by kernel_rfl)) ?_
  intro W base args ds gs before hval0 hW hcnd _
  have hval : ∀ (j : Nat) t v, Try.f4.params[j]? = some t → args[j]? = some v → Value.okWide Try.prog W .any base t v := hval0
  have hW' := hW
  have hlt := hW'.lt
  obtain ⟨p, q, hA0, hV, rfl, hfz, hnd⟩ := hW
  have hA : DataW.TrodAll enc Try.prog W 0 (fun _ => true) true Try.f4.params.toList args.toList ds p := hA0
  rw [Try.params4] at hA hval
  have hR := hA
  obtain ⟨v0, vs0, d0, ds0, p0, q0, hargs, rfl, rfl, h0, r0⟩ := trodAll_cons hA
  obtain ⟨v1, vs1, d1, ds1, p1, q1, rfl, rfl, rfl, h1, r1⟩ := trodAll_cons r0
  obtain ⟨v2, vs2, d2, ds2, p2, q2, rfl, rfl, rfl, h2, r2⟩ := trodAll_cons r1
  obtain ⟨rfl, rfl, rfl⟩ := trodAll_nil r2
  obtain rfl : args = #[v0, v1, v2] := by cases args; simp_all
  obtain ⟨rfl, rfl⟩ := trodVars_none hV
  obtain ⟨wd0, fl0, a0, cap0, xs0, rfl, iwd0, ifl0, hs0, hm0⟩ := open_place (hval 0 24 v0 rfl rfl) h0
  obtain ⟨a1, rfl, rfl, rfl, w1⟩ := open_int Try.underlying2 (hval 1 2 v1 rfl rfl) h1
  obtain ⟨a2, rfl, rfl, rfl, w2⟩ := open_int Try.underlying2 (hval 2 2 v2 rfl rfl) h2
  clear hA0 hval0
  refine (walk W wd0 fl0 a0 cap0 xs0 iwd0 ifl0 hs0 hm0 a1 w1 a2 w2).mono fun e W' ⟨he, hg⟩ => ?_
  subst he
  exact ⟨_, rfl, _, _, _, [], _, [], hW', (trodAll_cons_mk (shut_bool Try.underlying4 _) trodAll_mk0), trodAll_after table_ok hg (by decide) hR (fun x hx => hlt x (List.mem_append.2 (.inl hx))), rfl, hg.frame _, fun h => by cases h⟩

theorem over : Rows.fnExactQuitRow.holds Try.pinned (OpenSpec.ofChange Rows.fnExactQuitSpec) :=
  OpenClaim.holds_of_wide 4 Try.f4 rfl rfl rfl rfl rfl rfl rfl ⟨rfl, rfl, rfl, rfl, rfl⟩ rfl rfl rfl rfl rfl (by kernel_rfl) Try.func4 (by kernel_rfl)
    (of_decide_eq_true (by kernel_rfl)) (by unfold Func.isWrapper; first | (rw [if_pos (by decide +kernel)]; kernel_rfl) | (rw [if_neg (by decide +kernel)]; exact ⟨rfl, rfl⟩))
    (fun os started H enc _ => lifted os started H enc)

theorem proved : Rows.FnExactQuitSaid := over
#print axioms proved
end Go.Proofs.Ytoeiheccmpjclar.fnExactQuit
namespace Go.Proofs.Ytoeiheccmpjclar
theorem fnExactQuit_holds : Rows.FnExactQuitSaid := fnExactQuit.proved
#print axioms fnExactQuit_holds
end Go.Proofs.Ytoeiheccmpjclar
