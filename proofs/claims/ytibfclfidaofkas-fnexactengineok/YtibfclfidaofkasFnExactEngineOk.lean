/- Proved: at every Engine impl.EngineOk answers as spec.EngineOk does and writes nothing into it (the law FnExactEngineOk returns true and its arguments read as before); no condition. -/
import Derived.Test.YtibfclfidaofkasRows
import Derived.WalkKit
import Derived.ProofKit
import Derived.OpenShut
import Derived.ShutString
import Derived.Below
import Derived.Laws.Cover2
import Derived.Test.YtibfclfidaofkasSpecEng
import Derived.Test.YtibfclfidaofkasImplEng
import Derived.Test.YtibfclfidaofkasEngTo
import Derived.Test.YtibfclfidaofkasEngLaw
import Derived.Test.YtibfclfidaofkasEngRead
import Derived.Test.YtibfclfidaofkasGrpA
import Derived.Deep.RegionHeld3
namespace Go.Proofs.Ytibfclfidaofkas.fnExactEngineOk
open Go.ChangeShapes Go.WideShapes Go.ChangeAt Go.RowKit
set_option linter.unusedVariables false

theorem own : ownKnob Try.prog.godebug = none := by kernel_rfl

set_option linter.unusedSimpArgs false
set_option linter.unusedVariables false
set_option maxRecDepth 100000

/-! ### STEP 1: the walk -/
set_option maxHeartbeats 8000000 in
theorem walk (w : World) (t0 : Int) (aT0 : Option Addr) (cT0 : Nat) (T0 : List Q4) (aO0 : Option Addr) (cO0 : Nat) (O0 : List Q4) (aP0 : Option Addr) (cP0 : Nat) (P0 : List Q4) (aL0 : Option Addr) (cL0 : Nat) (L0 : List F8) (aK0 : Option Addr) (cK0 : Nat) (K0 : List Kn) (n0 : Int) (it0 : I64 t0) (qT0 : Quad w.heap.size w aT0 T0) (qO0 : Quad w.heap.size w aO0 O0) (qP0 : Quad w.heap.size w aP0 P0) (mT0 : T0.length ≤ maxLen) (mO0 : O0.length ≤ maxLen) (mP0 : P0.length ≤ maxLen) (hL0 : Fls w.heap.size w aL0 L0) (mL0 : L0.length ≤ maxLen) (sL0 : ∀ f ∈ L0, f.2.2.length ≤ maxLen) (hK0 : Kls w.heap.size w aK0 K0) (mK0 : K0.length ≤ maxLen) (sK0 : ∀ k ∈ K0, k.xs.length ≤ maxLen) (in0 : I64 n0) :
    Calls Try.prog 3 #[.agg #[.int .i64 t0, .slice aT0 T0.length cT0, .slice aO0 O0.length cO0, .slice aP0 P0.length cP0, .slice aL0 L0.length cL0, .slice aK0 K0.length cK0, .int .i64 n0]] w fun e w' => e = .returned (.bool true) ∧ Below w.heap.size w w' := by
  have hL64 : (sumL L0 L0.length : Int) ≤ (sumL L0 L0.length : Int) := Int.le_refl _
  obtain ⟨tot, htot⟩ : ∃ tot : Int, (T0.length : Int) + O0.length + P0.length + ((L0.length : Int) + (sumL L0 L0.length : Int)) + ((K0.length : Int) + (sumK K0 K0.length : Int)) = tot := ⟨_, rfl⟩
  have HSZ : Hid (∀ w : World, Quad w.heap.size w aT0 T0 → Quad w.heap.size w aO0 O0 → Quad w.heap.size w aP0 P0 → Fls w.heap.size w aL0 L0 → Kls w.heap.size w aK0 K0 → Calls Try.prog 5 #[engV t0 aT0 T0.length cT0 aO0 O0.length cO0 aP0 P0.length cP0 aL0 L0.length cL0 aK0 K0.length cK0 n0, .int .i64 1048576] w fun e w' => e = .returned (.int .i64 (if tot ≤ 1048576 then 1048576 - tot else -1)) ∧ Below w.heap.size w w') := fun w q1 q2 q3 q4 q5 => by
    have h := szEngine_any t0 cT0 cO0 cP0 cL0 cK0 n0 q1 q2 q3 q4 q5 mT0 mO0 mP0 mL0 sL0 mK0 sK0
    rw [htot, show 1048576 - (T0.length : Int) - O0.length - P0.length - (L0.length : Int) - (sumL L0 L0.length : Int) - (K0.length : Int) - (sumK K0 K0.length : Int) = 1048576 - tot by omega] at h
    exact h
  have DP0 : Hid (Lay (w.alloc (.cells #[.int .i64 t0, .slice aT0 T0.length cT0, .slice aO0 O0.length cO0, .slice aP0 P0.length cP0, .slice aL0 L0.length cL0, .slice aK0 K0.length cK0, .int .i64 n0] 29)) w.heap.size [.int .i64 t0, .slice aT0 T0.length cT0, .slice aO0 O0.length cO0, .slice aP0 P0.length cP0, .slice aL0 L0.length cL0, .slice aK0 K0.length cK0, .int .i64 n0]) := lay_new [.int .i64 t0, .slice aT0 T0.length cT0, .slice aO0 O0.length cO0, .slice aP0 P0.length cP0, .slice aL0 L0.length cL0, .slice aK0 K0.length cK0, .int .i64 n0] _ rfl
  have nb : Below w.heap.size w (w.alloc (.cells #[.int .i64 t0, .slice aT0 T0.length cT0, .slice aO0 O0.length cO0, .slice aP0 P0.length cP0, .slice aL0 L0.length cL0, .slice aK0 K0.length cK0, .int .i64 n0] 29)) := new_below _ _
  by_cases hs : tot ≤ 1048576
  · have hz : (if tot ≤ 1048576 then 1048576 - tot else -1) = 1048576 - tot := if_pos hs
    have hz' : (0 : Int) ≤ 1048576 - tot := by omega
    have nT : T0.length ≤ 1048576 := by omega
    have nO : O0.length ≤ 1048576 := by omega
    have nP : P0.length ≤ 1048576 := by omega
    have nL : L0.length ≤ 1048576 := by omega
    have nK : K0.length ≤ 1048576 := by omega
    have zL : ∀ f ∈ L0, f.2.2.length ≤ 1048576 := fun f hf => by have := sumL_mem hf; omega
    have zK : ∀ c ∈ K0, c.xs.length ≤ 1048576 := fun c hc => by have := sumK_mem hc; omega
    have yL : ∀ f ∈ L0, f.2.2.length ≤ 4611686018427387904 := fun f hf => by have := zL f hf; omega
    have yK : ∀ c ∈ K0, c.xs.length ≤ 4611686018427387904 := fun c hc => by have := zK c hc; omega
    have HTOT : Hid (T0.length + O0.length + P0.length ≤ 1048576 ∧ L0.length + sumL L0 L0.length ≤ 1048576 ∧ K0.length + sumK K0 K0.length ≤ 1048576) := ⟨by omega, by omega, by omega⟩
    clear htot
    obtain ⟨f, hf⟩ : ∃ f, engB t0 n0 T0 O0 P0 L0 K0 = f := ⟨_, rfl⟩
    have HF : Hid (engB t0 n0 T0 O0 P0 L0 K0 = f) := hf
    clear hf
    go_enter Try.func3, Try.ntmps3
    go_upto_region 7 with (first
      | (go_at_call 5; refine (HSZ.out _ (qT0.here nb) (qO0.here nb) (qP0.here nb) (hL0.here nb) (hK0.here nb)).mono ?_; rintro e v1 ⟨rfl, hb1⟩; rw [hz]; have hbw : Below w.heap.size w v1 := below_two nb hb1; have DP : Hid (Lay v1 (w.heap.size) [.int .i64 t0, .slice aT0 T0.length cT0, .slice aO0 O0.length cO0, .slice aP0 P0.length cP0, .slice aL0 L0.length cL0, .slice aK0 K0.length cK0, .int .i64 n0]) := DP0.out.next hb1; have p0 : v1.cell? ⟨w.heap.size, 0, none⟩ = some (.int .i64 t0) := DP.out.cell 0 _ rfl; have p1 : v1.cell? ⟨w.heap.size, 1, none⟩ = some (.slice aT0 T0.length cT0) := DP.out.cell 1 _ rfl; have p2 : v1.cell? ⟨w.heap.size, 2, none⟩ = some (.slice aO0 O0.length cO0) := DP.out.cell 2 _ rfl; have p3 : v1.cell? ⟨w.heap.size, 3, none⟩ = some (.slice aP0 P0.length cP0) := DP.out.cell 3 _ rfl; have p4 : v1.cell? ⟨w.heap.size, 4, none⟩ = some (.slice aL0 L0.length cL0) := DP.out.cell 4 _ rfl; have p5 : v1.cell? ⟨w.heap.size, 5, none⟩ = some (.slice aK0 K0.length cK0) := DP.out.cell 5 _ rfl; have p6 : v1.cell? ⟨w.heap.size, 6, none⟩ = some (.int .i64 n0) := DP.out.cell 6 _ rfl)
      | (go_at_call 7; have g1 := mkSeen; refine (toEngine_any t0 cT0 cO0 cP0 cL0 cK0 n0 (qT0.here hbw) (qO0.here hbw) (qP0.here hbw) (hL0.here hbw) (hK0.here hbw) nT nO nP nL zL nK zK).mono ?_; rintro e v4 ⟨gxT, gxO, gxP, gxL, gxK, rfl, ex, hb4⟩; have hbw : Below w.heap.size w v4 := below_two hbw hb4; clear p0 p1 p2 p3 p4 p5 p6; have DP : Hid (Lay v4 (w.heap.size) [.int .i64 t0, .slice aT0 T0.length cT0, .slice aO0 O0.length cO0, .slice aP0 P0.length cP0, .slice aL0 L0.length cL0, .slice aK0 K0.length cK0, .int .i64 n0]) := DP.out.next hb4; have p0 : v4.cell? ⟨w.heap.size, 0, none⟩ = some (.int .i64 t0) := DP.out.cell 0 _ rfl; have p1 : v4.cell? ⟨w.heap.size, 1, none⟩ = some (.slice aT0 T0.length cT0) := DP.out.cell 1 _ rfl; have p2 : v4.cell? ⟨w.heap.size, 2, none⟩ = some (.slice aO0 O0.length cO0) := DP.out.cell 2 _ rfl; have p3 : v4.cell? ⟨w.heap.size, 3, none⟩ = some (.slice aP0 P0.length cP0) := DP.out.cell 3 _ rfl; have p4 : v4.cell? ⟨w.heap.size, 4, none⟩ = some (.slice aL0 L0.length cL0) := DP.out.cell 4 _ rfl; have p5 : v4.cell? ⟨w.heap.size, 5, none⟩ = some (.slice aK0 K0.length cK0) := DP.out.cell 5 _ rfl; have p6 : v4.cell? ⟨w.heap.size, 6, none⟩ = some (.int .i64 n0) := DP.out.cell 6 _ rfl; have HEX : Hid (Eng v4 v3.heap.size v4.heap.size (.slice (some ⟨gxT, 0, none⟩) T0.length T0.length) (.slice (some ⟨gxO, 0, none⟩) O0.length O0.length) (.slice (some ⟨gxP, 0, none⟩) P0.length P0.length) (.slice (some ⟨gxL, 0, none⟩) L0.length L0.length) (.slice (some ⟨gxK, 0, none⟩) K0.length K0.length) T0 O0 P0 L0 K0) := ex)
      | (go_at_call 7; refine (toEngine_any t0 cT0 cO0 cP0 cL0 cK0 n0 (qT0.here hbw) (qO0.here hbw) (qP0.here hbw) (hL0.here hbw) (hK0.here hbw) nT nO nP nL zL nK zK).mono ?_; rintro e v2 ⟨g2T, g2O, g2P, g2L, g2K, rfl, e2, hb2⟩; have hbw : Below w.heap.size w v2 := below_two hbw hb2; clear p0 p1 p2 p3 p4 p5 p6; have DP : Hid (Lay v2 (w.heap.size) [.int .i64 t0, .slice aT0 T0.length cT0, .slice aO0 O0.length cO0, .slice aP0 P0.length cP0, .slice aL0 L0.length cL0, .slice aK0 K0.length cK0, .int .i64 n0]) := DP.out.next hb2; have p0 : v2.cell? ⟨w.heap.size, 0, none⟩ = some (.int .i64 t0) := DP.out.cell 0 _ rfl; have p1 : v2.cell? ⟨w.heap.size, 1, none⟩ = some (.slice aT0 T0.length cT0) := DP.out.cell 1 _ rfl; have p2 : v2.cell? ⟨w.heap.size, 2, none⟩ = some (.slice aO0 O0.length cO0) := DP.out.cell 2 _ rfl; have p3 : v2.cell? ⟨w.heap.size, 3, none⟩ = some (.slice aP0 P0.length cP0) := DP.out.cell 3 _ rfl; have p4 : v2.cell? ⟨w.heap.size, 4, none⟩ = some (.slice aL0 L0.length cL0) := DP.out.cell 4 _ rfl; have p5 : v2.cell? ⟨w.heap.size, 5, none⟩ = some (.slice aK0 K0.length cK0) := DP.out.cell 5 _ rfl; have p6 : v2.cell? ⟨w.heap.size, 6, none⟩ = some (.int .i64 n0) := DP.out.cell 6 _ rfl; obtain ⟨QT, QO, QP, QL, QK⟩ := eng_read e2)
      | (go_at_call 6; refine (specEngineOk_is _ _ _ _ _ HF.out QT QO QP QL QK nT nL nK sK0).mono ?_; rintro e v3 ⟨rfl, hb3⟩; have hbw : Below w.heap.size w v3 := below_two hbw hb3; clear p0 p1 p2 p3 p4 p5 p6; have DP : Hid (Lay v3 (w.heap.size) [.int .i64 t0, .slice aT0 T0.length cT0, .slice aO0 O0.length cO0, .slice aP0 P0.length cP0, .slice aL0 L0.length cL0, .slice aK0 K0.length cK0, .int .i64 n0]) := DP.out.next hb3; have p0 : v3.cell? ⟨w.heap.size, 0, none⟩ = some (.int .i64 t0) := DP.out.cell 0 _ rfl; have p1 : v3.cell? ⟨w.heap.size, 1, none⟩ = some (.slice aT0 T0.length cT0) := DP.out.cell 1 _ rfl; have p2 : v3.cell? ⟨w.heap.size, 2, none⟩ = some (.slice aO0 O0.length cO0) := DP.out.cell 2 _ rfl; have p3 : v3.cell? ⟨w.heap.size, 3, none⟩ = some (.slice aP0 P0.length cP0) := DP.out.cell 3 _ rfl; have p4 : v3.cell? ⟨w.heap.size, 4, none⟩ = some (.slice aL0 L0.length cL0) := DP.out.cell 4 _ rfl; have p5 : v3.cell? ⟨w.heap.size, 5, none⟩ = some (.slice aK0 K0.length cK0) := DP.out.cell 5 _ rfl; have p6 : v3.cell? ⟨w.heap.size, 6, none⟩ = some (.int .i64 n0) := DP.out.cell 6 _ rfl; have mkSeen : True := trivial))
    obtain ⟨v5, hv5⟩ : ∃ x, x = v4.alloc (.cells #[.int .i64 t0, .slice (some ⟨gxT, 0, none⟩) T0.length T0.length, .slice (some ⟨gxO, 0, none⟩) O0.length O0.length, .slice (some ⟨gxP, 0, none⟩) P0.length P0.length, .slice (some ⟨gxL, 0, none⟩) L0.length L0.length, .slice (some ⟨gxK, 0, none⟩) K0.length K0.length, .int .i64 n0] 39) := ⟨_, rfl⟩
    obtain ⟨bx, ebx⟩ : ∃ b, b = v4.heap.size := ⟨_, rfl⟩
    rw [← hv5, ← ebx]
    have ybx : v4.heap.size ≤ bx := by omega
    have ubx : bx < v5.heap.size := by rw [hv5, ebx]; simp
    have kv5 : Below v4.heap.size v4 v5 := by rw [hv5]; exact new_below _ _
    have DX : Hid (Lay v5 (bx) [.int .i64 t0, .slice (some ⟨gxT, 0, none⟩) T0.length T0.length, .slice (some ⟨gxO, 0, none⟩) O0.length O0.length, .slice (some ⟨gxP, 0, none⟩) P0.length P0.length, .slice (some ⟨gxL, 0, none⟩) L0.length L0.length, .slice (some ⟨gxK, 0, none⟩) K0.length K0.length, .int .i64 n0]) := by rw [hv5, ebx]; exact lay_new [.int .i64 t0, .slice (some ⟨gxT, 0, none⟩) T0.length T0.length, .slice (some ⟨gxO, 0, none⟩) O0.length O0.length, .slice (some ⟨gxP, 0, none⟩) P0.length P0.length, .slice (some ⟨gxL, 0, none⟩) L0.length L0.length, .slice (some ⟨gxK, 0, none⟩) K0.length K0.length, .int .i64 n0] _ rfl
    clear hv5 ebx
    have hbw : Below w.heap.size w v5 := below_two hbw kv5
    clear p0 p1 p2 p3 p4 p5 p6
    have DP : Hid (Lay v5 (w.heap.size) [.int .i64 t0, .slice aT0 T0.length cT0, .slice aO0 O0.length cO0, .slice aP0 P0.length cP0, .slice aL0 L0.length cL0, .slice aK0 K0.length cK0, .int .i64 n0]) := DP.out.next kv5
    have p0 : v5.cell? ⟨w.heap.size, 0, none⟩ = some (.int .i64 t0) := DP.out.cell 0 _ rfl
    have p1 : v5.cell? ⟨w.heap.size, 1, none⟩ = some (.slice aT0 T0.length cT0) := DP.out.cell 1 _ rfl
    have p2 : v5.cell? ⟨w.heap.size, 2, none⟩ = some (.slice aO0 O0.length cO0) := DP.out.cell 2 _ rfl
    have p3 : v5.cell? ⟨w.heap.size, 3, none⟩ = some (.slice aP0 P0.length cP0) := DP.out.cell 3 _ rfl
    have p4 : v5.cell? ⟨w.heap.size, 4, none⟩ = some (.slice aL0 L0.length cL0) := DP.out.cell 4 _ rfl
    have p5 : v5.cell? ⟨w.heap.size, 5, none⟩ = some (.slice aK0 K0.length cK0) := DP.out.cell 5 _ rfl
    have p6 : v5.cell? ⟨w.heap.size, 6, none⟩ = some (.int .i64 n0) := DP.out.cell 6 _ rfl
    have HEX : Hid (Eng v5 v3.heap.size v4.heap.size (.slice (some ⟨gxT, 0, none⟩) T0.length T0.length) (.slice (some ⟨gxO, 0, none⟩) O0.length O0.length) (.slice (some ⟨gxP, 0, none⟩) P0.length P0.length) (.slice (some ⟨gxL, 0, none⟩) L0.length L0.length) (.slice (some ⟨gxK, 0, none⟩) K0.length K0.length) T0 O0 P0 L0 K0) := Eng.next HEX.out kv5
    have xx0 : v5.cell? ⟨bx, 0, none⟩ = some (.int .i64 t0) := DX.out.cell 0 _ rfl
    have xx1 : v5.cell? ⟨bx, 1, none⟩ = some (.slice (some ⟨gxT, 0, none⟩) T0.length T0.length) := DX.out.cell 1 _ rfl
    have xx2 : v5.cell? ⟨bx, 2, none⟩ = some (.slice (some ⟨gxO, 0, none⟩) O0.length O0.length) := DX.out.cell 2 _ rfl
    have xx3 : v5.cell? ⟨bx, 3, none⟩ = some (.slice (some ⟨gxP, 0, none⟩) P0.length P0.length) := DX.out.cell 3 _ rfl
    have xx4 : v5.cell? ⟨bx, 4, none⟩ = some (.slice (some ⟨gxL, 0, none⟩) L0.length L0.length) := DX.out.cell 4 _ rfl
    have xx5 : v5.cell? ⟨bx, 5, none⟩ = some (.slice (some ⟨gxK, 0, none⟩) K0.length K0.length) := DX.out.cell 5 _ rfl
    have xx6 : v5.cell? ⟨bx, 6, none⟩ = some (.int .i64 n0) := DX.out.cell 6 _ rfl
    go_upto_region 10 with (first
      | (go_at_call 8; obtain ⟨RT, RO, RP, RL, RK⟩ := eng_read HEX.out; refine (implEngineOk_is _ _ _ _ _ HF.out RT RO RP RL RK nL zL nK sK0).mono ?_; rintro e v6 ⟨rfl, hb6⟩; have hbw : Below w.heap.size w v6 := below_two hbw hb6; clear p0 p1 p2 p3 p4 p5 p6; have DP : Hid (Lay v6 (w.heap.size) [.int .i64 t0, .slice aT0 T0.length cT0, .slice aO0 O0.length cO0, .slice aP0 P0.length cP0, .slice aL0 L0.length cL0, .slice aK0 K0.length cK0, .int .i64 n0]) := DP.out.next hb6; have p0 : v6.cell? ⟨w.heap.size, 0, none⟩ = some (.int .i64 t0) := DP.out.cell 0 _ rfl; have p1 : v6.cell? ⟨w.heap.size, 1, none⟩ = some (.slice aT0 T0.length cT0) := DP.out.cell 1 _ rfl; have p2 : v6.cell? ⟨w.heap.size, 2, none⟩ = some (.slice aO0 O0.length cO0) := DP.out.cell 2 _ rfl; have p3 : v6.cell? ⟨w.heap.size, 3, none⟩ = some (.slice aP0 P0.length cP0) := DP.out.cell 3 _ rfl; have p4 : v6.cell? ⟨w.heap.size, 4, none⟩ = some (.slice aL0 L0.length cL0) := DP.out.cell 4 _ rfl; have p5 : v6.cell? ⟨w.heap.size, 5, none⟩ = some (.slice aK0 K0.length cK0) := DP.out.cell 5 _ rfl; have p6 : v6.cell? ⟨w.heap.size, 6, none⟩ = some (.int .i64 n0) := DP.out.cell 6 _ rfl; clear xx0 xx1 xx2 xx3 xx4 xx5 xx6; have DX : Hid (Lay v6 (bx) [.int .i64 t0, .slice (some ⟨gxT, 0, none⟩) T0.length T0.length, .slice (some ⟨gxO, 0, none⟩) O0.length O0.length, .slice (some ⟨gxP, 0, none⟩) P0.length P0.length, .slice (some ⟨gxL, 0, none⟩) L0.length L0.length, .slice (some ⟨gxK, 0, none⟩) K0.length K0.length, .int .i64 n0]) := DX.out.next hb6; have xx0 : v6.cell? ⟨bx, 0, none⟩ = some (.int .i64 t0) := DX.out.cell 0 _ rfl; have xx1 : v6.cell? ⟨bx, 1, none⟩ = some (.slice (some ⟨gxT, 0, none⟩) T0.length T0.length) := DX.out.cell 1 _ rfl; have xx2 : v6.cell? ⟨bx, 2, none⟩ = some (.slice (some ⟨gxO, 0, none⟩) O0.length O0.length) := DX.out.cell 2 _ rfl; have xx3 : v6.cell? ⟨bx, 3, none⟩ = some (.slice (some ⟨gxP, 0, none⟩) P0.length P0.length) := DX.out.cell 3 _ rfl; have xx4 : v6.cell? ⟨bx, 4, none⟩ = some (.slice (some ⟨gxL, 0, none⟩) L0.length L0.length) := DX.out.cell 4 _ rfl; have xx5 : v6.cell? ⟨bx, 5, none⟩ = some (.slice (some ⟨gxK, 0, none⟩) K0.length K0.length) := DX.out.cell 5 _ rfl; have xx6 : v6.cell? ⟨bx, 6, none⟩ = some (.int .i64 n0) := DX.out.cell 6 _ rfl; have HEX : Hid (Eng v6 v3.heap.size v4.heap.size (.slice (some ⟨gxT, 0, none⟩) T0.length T0.length) (.slice (some ⟨gxO, 0, none⟩) O0.length O0.length) (.slice (some ⟨gxP, 0, none⟩) P0.length P0.length) (.slice (some ⟨gxL, 0, none⟩) L0.length L0.length) (.slice (some ⟨gxK, 0, none⟩) K0.length K0.length) T0 O0 P0 L0 K0) := Eng.next HEX.out hb6))
    have HS : Hid (∀ w', Below v6.heap.size v6 w' → (fun w' => w'.cell? ⟨w.heap.size, 0, none⟩ = some (.int .i64 t0) ∧ w'.cell? ⟨w.heap.size, 1, none⟩ = some (.slice aT0 T0.length cT0) ∧ w'.cell? ⟨w.heap.size, 2, none⟩ = some (.slice aO0 O0.length cO0) ∧ w'.cell? ⟨w.heap.size, 3, none⟩ = some (.slice aP0 P0.length cP0) ∧ w'.cell? ⟨w.heap.size, 4, none⟩ = some (.slice aL0 L0.length cL0) ∧ w'.cell? ⟨w.heap.size, 5, none⟩ = some (.slice aK0 K0.length cK0) ∧ w'.cell? ⟨w.heap.size, 6, none⟩ = some (.int .i64 n0) ∧ w'.cell? ⟨bx, 0, none⟩ = some (.int .i64 t0) ∧ w'.cell? ⟨bx, 1, none⟩ = some (.slice (some ⟨gxT, 0, none⟩) T0.length T0.length) ∧ w'.cell? ⟨bx, 2, none⟩ = some (.slice (some ⟨gxO, 0, none⟩) O0.length O0.length) ∧ w'.cell? ⟨bx, 3, none⟩ = some (.slice (some ⟨gxP, 0, none⟩) P0.length P0.length) ∧ w'.cell? ⟨bx, 4, none⟩ = some (.slice (some ⟨gxL, 0, none⟩) L0.length L0.length) ∧ w'.cell? ⟨bx, 5, none⟩ = some (.slice (some ⟨gxK, 0, none⟩) K0.length K0.length) ∧ w'.cell? ⟨bx, 6, none⟩ = some (.int .i64 n0)) w') := fun w' h => ⟨(DP.out.next h).cell 0 _ rfl, (DP.out.next h).cell 1 _ rfl, (DP.out.next h).cell 2 _ rfl, (DP.out.next h).cell 3 _ rfl, (DP.out.next h).cell 4 _ rfl, (DP.out.next h).cell 5 _ rfl, (DP.out.next h).cell 6 _ rfl, (DX.out.next h).cell 0 _ rfl, (DX.out.next h).cell 1 _ rfl, (DX.out.next h).cell 2 _ rfl, (DX.out.next h).cell 3 _ rfl, (DX.out.next h).cell 4 _ rfl, (DX.out.next h).cell 5 _ rfl, (DX.out.next h).cell 6 _ rfl⟩
    have hr : Below v6.heap.size v6 v6.drew := (Below.refl _ _).drew
    refine wp_region_held_drew (S := fun w' => w'.cell? ⟨w.heap.size, 0, none⟩ = some (.int .i64 t0) ∧ w'.cell? ⟨w.heap.size, 1, none⟩ = some (.slice aT0 T0.length cT0) ∧ w'.cell? ⟨w.heap.size, 2, none⟩ = some (.slice aO0 O0.length cO0) ∧ w'.cell? ⟨w.heap.size, 3, none⟩ = some (.slice aP0 P0.length cP0) ∧ w'.cell? ⟨w.heap.size, 4, none⟩ = some (.slice aL0 L0.length cL0) ∧ w'.cell? ⟨w.heap.size, 5, none⟩ = some (.slice aK0 K0.length cK0) ∧ w'.cell? ⟨w.heap.size, 6, none⟩ = some (.int .i64 n0) ∧ w'.cell? ⟨bx, 0, none⟩ = some (.int .i64 t0) ∧ w'.cell? ⟨bx, 1, none⟩ = some (.slice (some ⟨gxT, 0, none⟩) T0.length T0.length) ∧ w'.cell? ⟨bx, 2, none⟩ = some (.slice (some ⟨gxO, 0, none⟩) O0.length O0.length) ∧ w'.cell? ⟨bx, 3, none⟩ = some (.slice (some ⟨gxP, 0, none⟩) P0.length P0.length) ∧ w'.cell? ⟨bx, 4, none⟩ = some (.slice (some ⟨gxL, 0, none⟩) L0.length L0.length) ∧ w'.cell? ⟨bx, 5, none⟩ = some (.slice (some ⟨gxK, 0, none⟩) K0.length K0.length) ∧ w'.cell? ⟨bx, 6, none⟩ = some (.int .i64 n0)) (by kernel_rfl) (HS.out _ hr) (fun hS => ?_)
    refine wpAnyH_take (i := 0) (v := ?_) rfl (by kernel_rfl) (by kernel_rfl) (by kernel_rfl) (fun _ _ _ h => h) (Or.inl ⟨by rfl, ?_⟩) (by assumption) ?_
    rotate_left 1
    · (intro w' hSw; (try dsimp only at hSw); go_simp; try with_reducible rfl)
    try simp only [Act.put, List.setIfInBounds_toArray, List.set_cons_zero, List.set_cons_succ, List.getElem_toArray, List.getElem_cons_succ, List.getElem_cons_zero]
    refine wpAnyH_take (i := 1) (v := ?_) rfl (by kernel_rfl) (by kernel_rfl) (by kernel_rfl) (fun _ _ _ h => h) (Or.inl ⟨by rfl, ?_⟩) (by assumption) ?_
    rotate_left 1
    · (intro w' hSw; (try dsimp only at hSw); go_simp; try with_reducible rfl)
    try simp only [Act.put, List.setIfInBounds_toArray, List.set_cons_zero, List.set_cons_succ, List.getElem_toArray, List.getElem_cons_succ, List.getElem_cons_zero]
    refine wpAnyH_ready (rs := [2]) (by kernel_rfl) (by simp) (AllReadyH.cons rfl (fun Kr hKr => ?_) AllReadyH.nil)
    go_simp
    (refine (toEngine_any t0 cT0 cO0 cP0 cL0 cK0 n0 (qT0.here (below_two hbw hr)) (qO0.here (below_two hbw hr)) (qP0.here (below_two hbw hr)) (hL0.here (below_two hbw hr)) (hK0.here (below_two hbw hr)) nT nO nP nL zL nK zK).mono ?_; rintro e x1 ⟨gFT, gFO, gFP, gFL, gFK, rfl, EF, hbq⟩; have HEF : Hid (Eng x1 v6.drew.heap.size x1.heap.size (.slice (some ⟨gFT, 0, none⟩) T0.length T0.length) (.slice (some ⟨gFO, 0, none⟩) O0.length O0.length) (.slice (some ⟨gFP, 0, none⟩) P0.length P0.length) (.slice (some ⟨gFL, 0, none⟩) L0.length L0.length) (.slice (some ⟨gFK, 0, none⟩) K0.length K0.length) T0 O0 P0 L0 K0) := EF; have hr := hr.trans (hbq.mono hr.size); have hSq := HS.out _ hr)
    refine hKr.out _ _ (by assumption) (fun _ => ?_)
    try simp only [Act.put, List.setIfInBounds_toArray, List.set_cons_zero, List.set_cons_succ, List.getElem_toArray, List.getElem_cons_succ, List.getElem_cons_zero]
    refine wpAnyH_ready (rs := [3]) (by kernel_rfl) (by simp) (AllReadyH.cons rfl (fun Kr hKr => ?_) AllReadyH.nil)
    go_simp
    (obtain ⟨QT, QO, QP, QL, QK⟩ := eng_read (Eng.next HEX.out hr); obtain ⟨RT, RO, RP, RL, RK⟩ := eng_read HEF.out; refine (eqEngine_same t0 _ _ _ _ _ n0 _ _ _ _ _ QT QO QP QL QK RT RO RP RL RK (by omega) (by omega) (by omega) (by omega) yL (by omega) yK).mono ?_; rintro e x2 ⟨rfl, hbq⟩; have hr := hr.trans (hbq.mono hr.size); have hSq := HS.out _ hr)
    refine hKr.out _ _ (by assumption) (fun _ => ?_)
    try simp only [Act.put, List.setIfInBounds_toArray, List.set_cons_zero, List.set_cons_succ, List.getElem_toArray, List.getElem_cons_succ, List.getElem_cons_zero]
    refine wpAnyH_take (i := 4) (v := ?_) rfl (by kernel_rfl) (by kernel_rfl) (by kernel_rfl) (fun _ _ _ h => h) (Or.inl ⟨by rfl, ?_⟩) (by assumption) ?_
    rotate_left 1
    · (intro w' hSw; (try dsimp only at hSw); go_simp; try with_reducible rfl)
    try simp only [Act.put, List.setIfInBounds_toArray, List.set_cons_zero, List.set_cons_succ, List.getElem_toArray, List.getElem_cons_succ, List.getElem_cons_zero]
    refine wpAnyH_done (by kernel_rfl) ?_ _
    go_wp2
    go_ret
    exact ⟨rfl, below_two hbw hr⟩
  · have hz : (if tot ≤ 1048576 then 1048576 - tot else -1) = -1 := if_neg hs
    go_enter Try.func3, Try.ntmps3
    go_wp2_with (first | (go_at_call 5; refine (HSZ.out _ (qT0.here nb) (qO0.here nb) (qP0.here nb) (hL0.here nb) (hK0.here nb)).mono ?_; rintro e v1 ⟨rfl, hb1⟩; rw [hz]; have hbw : Below w.heap.size w v1 := below_two nb hb1))
    go_ret
    exact ⟨rfl, hbw⟩

/-! ### THE ROW's STEP -/
set_option maxRecDepth 100000 in
theorem lifted (os : Os) (started : os.Started) (H : Type) (enc : TypeId × Value → H) :
    ReturnsInHanded {} Try.checked os 3 .any (Rows.fnExactEngineOkSpec.pre6 enc Try.prog Try.f3 Rows.fnExactEngineOkRow.domain false) (Rows.fnExactEngineOkSpec.post enc Try.prog Try.f3 false true false false) := by
  refine returnsInHanded_of_change (C := Try.checked) own started (by kernel_rfl) Try.func3
    (ChangeSpec.witness6 (enc := enc) (C := Try.checked) false ⟨#[], #[.agg #[.int .i64 0, .slice none 0 0, .slice none 0 0, .slice none 0 0, .slice none 0 0, .slice none 0 0, .int .i64 0]], []⟩ 8 (by kernel_rfl) (by kernel_rfl) (by kernel_rfl) (by kernel_rfl)) ?_
  intro W base args ds gs before hval0 hW hcnd _
  have hval : ∀ (j : Nat) t v, Try.f3.params[j]? = some t → args[j]? = some v → Value.okWide Try.prog W .any base t v := hval0
  have hW' := hW
  have hlt := hW'.lt
  obtain ⟨p, q, hA0, hV, rfl, hfz, hnd⟩ := hW
  have hA : DataW.TrodAll enc Try.prog W 0 (fun _ => true) true Try.f3.params.toList args.toList ds p := hA0
  rw [Try.params3] at hA hval
  have hR := hA
  obtain ⟨v0, vs0, d0, ds0, p0, q0, hargs, rfl, rfl, h0, r0⟩ := trodAll_cons hA
  obtain ⟨rfl, rfl, rfl⟩ := trodAll_nil r0
  obtain rfl : args = #[v0] := by cases args; simp_all
  obtain ⟨rfl, rfl⟩ := trodVars_none hV
  obtain ⟨t0, aT0, cT0, T0, aO0, cO0, O0, aP0, cP0, P0, aL0, cL0, L0, aK0, cK0, K0, n0, rfl, it0, qT0, qO0, qP0, mT0, mO0, mP0, hL0, mL0, sL0, hK0, mK0, sK0, in0⟩ := open_engine (hval 0 29 v0 rfl rfl) h0
  clear hA0 hval0
  refine (walk W t0 aT0 cT0 T0 aO0 cO0 O0 aP0 cP0 P0 aL0 cL0 L0 aK0 cK0 K0 n0 it0 qT0 qO0 qP0 mT0 mO0 mP0 hL0 mL0 sL0 hK0 mK0 sK0 in0).mono fun e W' ⟨he, hg⟩ => ?_
  subst he
  exact ⟨_, rfl, _, _, _, [], _, [], hW', (trodAll_cons_mk (shut_bool Try.underlying4 _) trodAll_mk0), trodAll_after table_ok hg (by decide) hR (fun x hx => hlt x (List.mem_append.2 (.inl hx))), rfl, hg.frame _, fun h => by cases h⟩

theorem over : Rows.fnExactEngineOkRow.holds Try.pinned (OpenSpec.ofChange Rows.fnExactEngineOkSpec) :=
  OpenClaim.holds_of_wide 3 Try.f3 rfl rfl rfl rfl rfl rfl rfl ⟨rfl, rfl, rfl, rfl, rfl⟩ rfl rfl rfl rfl rfl (by kernel_rfl) Try.func3 (by kernel_rfl)
    (of_decide_eq_true (by kernel_rfl)) (by unfold Func.isWrapper; first | (rw [if_pos (by decide +kernel)]; kernel_rfl) | (rw [if_neg (by decide +kernel)]; exact ⟨rfl, rfl⟩))
    (fun os started H enc _ => lifted os started H enc)

theorem proved : Rows.FnExactEngineOkSaid := over
#print axioms proved
end Go.Proofs.Ytibfclfidaofkas.fnExactEngineOk
namespace Go.Proofs.Ytibfclfidaofkas
theorem fnExactEngineOk_holds : Rows.FnExactEngineOkSaid := fnExactEngineOk.proved
#print axioms fnExactEngineOk_holds
end Go.Proofs.Ytibfclfidaofkas
