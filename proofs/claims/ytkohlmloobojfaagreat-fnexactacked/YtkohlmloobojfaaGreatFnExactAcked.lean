/- Proved: at every Engine, Id and number impl.Acked answers as spec.Acked does, every field, writes nothing into its argument, and its answer owns its memory (the law FnExactAcked returns true and its arguments read as before); no condition. -/
import Derived.Test.YtkohlmloobojfaaGreatRows
import Derived.WalkKit
import Derived.ProofKit
import Derived.OpenShut
import Derived.ShutString
import Derived.Below
import Derived.Laws.Cover2
import Derived.Test.YtkohlmloobojfaaGreatGrpAF
import Derived.Test.YtkohlmloobojfaaGreatGrpBJ
import Derived.Test.YtkohlmloobojfaaGreatGrpAVX2
import Derived.Test.YtkohlmloobojfaaGreatGrpAVX1
import Derived.Test.YtkohlmloobojfaaGreatGrpAW
import Derived.Test.YtkohlmloobojfaaGreatGrpAY
import Derived.Test.YtkohlmloobojfaaGreatGrpAV
import Derived.Test.YtkohlmloobojfaaGreatGrpAC
import Derived.Deep.RegionHeld3
import Derived.Deep.DeepCutAuto
namespace Go.Proofs.YtkohlmloobojfaaGreat.fnExactAcked
open Go.ChangeShapes Go.WideShapes Go.ChangeAt Go.RowKit
set_option linter.unusedVariables false

theorem own : ownKnob Tryz.prog.godebug = none := by kernel_rfl

set_option linter.unusedSimpArgs false
set_option linter.unusedVariables false
set_option maxRecDepth 100000

/-! ### STEP 1: the walk -/
set_option maxHeartbeats 16000000 in
theorem walk (w : World) (t0 : Int) (aT0 : Option Addr) (cT0 : Nat) (T0 : List Q4) (aO0 : Option Addr) (cO0 : Nat) (O0 : List Q4) (aP0 : Option Addr) (cP0 : Nat) (P0 : List Q4) (aL0 : Option Addr) (cL0 : Nat) (L0 : List F8) (aK0 : Option Addr) (cK0 : Nat) (K0 : List Kn) (n0 : Int) (it0 : I64 t0) (qT0 : Quad w.heap.size w aT0 T0) (qO0 : Quad w.heap.size w aO0 O0) (qP0 : Quad w.heap.size w aP0 P0) (mT0 : T0.length ≤ maxLen) (mO0 : O0.length ≤ maxLen) (mP0 : P0.length ≤ maxLen) (hL0 : Fls w.heap.size w aL0 L0) (mL0 : L0.length ≤ maxLen) (sL0 : ∀ f ∈ L0, f.2.2.length ≤ maxLen) (hK0 : Kls w.heap.size w aK0 K0) (mK0 : K0.length ≤ maxLen) (sK0 : ∀ k ∈ K0, k.xs.length ≤ maxLen) (in0 : I64 n0) (a1 : Int) (w1 : (Lit.int .i64 a1).wf = true) (a2 : Int) (w2 : (Lit.int .i64 a2).wf = true) :
   Calls Tryz.prog 4 #[.agg #[.int .i64 t0, .slice aT0 T0.length cT0, .slice aO0 O0.length cO0, .slice aP0 P0.length cP0, .slice aL0 L0.length cL0, .slice aK0 K0.length cK0, .int .i64 n0], .int .i64 a1, .int .i64 a2] w fun e w' => e = .returned (.bool true) ∧ Below w.heap.size w w' := by
 have hL64 : (sumL L0 L0.length : Int) ≤ (sumL L0 L0.length : Int) := Int.le_refl _
 obtain ⟨tot, htot⟩ : ∃ tot : Int, (T0.length : Int) + O0.length + P0.length + ((L0.length : Int) + (sumL L0 L0.length : Int)) + ((K0.length : Int) + (sumK K0 K0.length : Int)) = tot := ⟨_, rfl⟩
 have HSZ : Hid (∀ w : World, Quad w.heap.size w aT0 T0 → Quad w.heap.size w aO0 O0 → Quad w.heap.size w aP0 P0 → Fls w.heap.size w aL0 L0 → Kls w.heap.size w aK0 K0 → Calls Tryz.prog 7 #[engV t0 aT0 T0.length cT0 aO0 O0.length cO0 aP0 P0.length cP0 aL0 L0.length cL0 aK0 K0.length cK0 n0, .int .i64 1048576] w fun e w' => e = .returned (.int .i64 (if tot ≤ 1048576 then 1048576 - tot else -1)) ∧ Below w.heap.size w w') := fun w q1 q2 q3 q4 q5 => by
   have h := szEngine_any t0 cT0 cO0 cP0 cL0 cK0 n0 q1 q2 q3 q4 q5 mT0 mO0 mP0 mL0 sL0 mK0 sK0
   rw [htot, show 1048576 - (T0.length : Int) - O0.length - P0.length - (L0.length : Int) - (sumL L0 L0.length : Int) - (K0.length : Int) - (sumK K0 K0.length : Int) = 1048576 - tot by omega] at h
   exact h
 have DP0 : Hid (Lay (w.alloc (.cells #[.int .i64 t0, .slice aT0 T0.length cT0, .slice aO0 O0.length cO0, .slice aP0 P0.length cP0, .slice aL0 L0.length cL0, .slice aK0 K0.length cK0, .int .i64 n0] 29)) w.heap.size [.int .i64 t0, .slice aT0 T0.length cT0, .slice aO0 O0.length cO0, .slice aP0 P0.length cP0, .slice aL0 L0.length cL0, .slice aK0 K0.length cK0, .int .i64 n0]) := lay_new [.int .i64 t0, .slice aT0 T0.length cT0, .slice aO0 O0.length cO0, .slice aP0 P0.length cP0, .slice aL0 L0.length cL0, .slice aK0 K0.length cK0, .int .i64 n0] _ rfl
 have nb : Below w.heap.size w (w.alloc (.cells #[.int .i64 t0, .slice aT0 T0.length cT0, .slice aO0 O0.length cO0, .slice aP0 P0.length cP0, .slice aL0 L0.length cL0, .slice aK0 K0.length cK0, .int .i64 n0] 29)) := new_below _ _
 by_cases hs : tot ≤ 1048576
 · have hz : (if tot ≤ 1048576 then 1048576 - tot else -1) = 1048576 - tot := if_pos hs
   have hz' : (0 : Int) ≤ 1048576 - tot := by omega
   have nT : T0.length ≤ 1048576 := by omega
   have nO : O0.length ≤ 1048576 := by omega
   have nP : P0.length ≤ 1048576 := by omega
   have nL : L0.length ≤ 1048576 := by omega
   have nK : K0.length ≤ 1048576 := by omega
   have zL : ∀ f ∈ L0, f.2.2.length ≤ 1048576 := fun f hf => by have := sumL_mem hf; omega
   have zK : ∀ c ∈ K0, c.xs.length ≤ 1048576 := fun c hc => by have := sumK_mem hc; omega
   have yL : ∀ f ∈ L0, f.2.2.length ≤ 4611686018427387904 := fun f hf => by have := zL f hf; omega
   have yK : ∀ c ∈ K0, c.xs.length ≤ 4611686018427387904 := fun c hc => by have := zK c hc; omega
   have HTOT : Hid (T0.length + O0.length + P0.length ≤ 1048576 ∧ L0.length + sumL L0 L0.length ≤ 1048576 ∧ K0.length + sumK K0 K0.length ≤ 1048576) := ⟨by omega, by omega, by omega⟩
   clear htot
   obtain ⟨YN, YX, YT, YO, YP, YL, YK, f, hY, hsp, him⟩ := acks14 t0 n0 T0 O0 P0 L0 K0 a1 a2 nT nL zL nK zK
   obtain ⟨yT, yO, yP, yLl, yLm, yKl, yKm, hTY⟩ := hY
   have HTY : Hid (YT.length + YO.length + YP.length ≤ 1048576 ∧ YL.length + sumL YL YL.length ≤ 1048576 ∧ YK.length + sumK YK YK.length ≤ 1048576) := hTY
   have HSP : Hid (∀ (w : World) (aT aO aP aL aK : Option Addr) (cT cO cP cL cK : Nat), Quad w.heap.size w aT T0 → Quad w.heap.size w aO O0 → Quad w.heap.size w aP P0 → Fls w.heap.size w aL L0 → Kls w.heap.size w aK K0 → Calls Tryz.prog 14 #[engV t0 aT T0.length cT aO O0.length cO aP P0.length cP aL L0.length cL aK K0.length cK n0, .int .i64 a1, .int .i64 a2] w (EgPost w YN YX YT YO YP YL YK (.int .i64 f))) := hsp
   have HIM : Hid (∀ (w : World) (aT aO aP aL aK : Option Addr) (cT cO cP cL cK : Nat), Quad w.heap.size w aT T0 → Quad w.heap.size w aO O0 → Quad w.heap.size w aP P0 → Fls w.heap.size w aL L0 → Kls w.heap.size w aK K0 → Calls Tryz.prog 15 #[engV t0 aT T0.length cT aO O0.length cO aP P0.length cP aL L0.length cL aK K0.length cK n0, .int .i64 a1, .int .i64 a2] w (EgPost w YN YX YT YO YP YL YK (.int .i64 f))) := him
   obtain ⟨kM, hkM⟩ : ∃ k, kE 1 YT YO YP YL YK = k := ⟨_, rfl⟩
   have HKM : Hid (kE 1 YT YO YP YL YK = kM) := hkM
   have hkc : decide (kM < 0) = false := decide_eq_false (by rw [← hkM]; have := kE_pos YT YO YP YL YK; omega)
   have hkc' : ¬ kM < 0 := of_decide_eq_false hkc
   obtain ⟨kX, hkX⟩ : ∃ k, kE 1 T0 O0 P0 L0 K0 = k := ⟨_, rfl⟩
   have HKX : Hid (kE 1 T0 O0 P0 L0 K0 = kX) := hkX
   have hkd : decide (kX < 0) = false := decide_eq_false (by rw [← hkX]; have := kE_pos T0 O0 P0 L0 K0; omega)
   have hkd' : ¬ kX < 0 := of_decide_eq_false hkd
   have hp0 : w.heap.size < (w.alloc (.cells #[.int .i64 t0, .slice aT0 T0.length cT0, .slice aO0 O0.length cO0, .slice aP0 P0.length cP0, .slice aL0 L0.length cL0, .slice aK0 K0.length cK0, .int .i64 n0] 29)).heap.size := DP0.out.lt
   clear hsp him hTY hkM hkX
   go_enter Tryz.func4, Tryz.ntmps4
   go_upto_region 6 with (first
     | (go_at_call 7; refine (HSZ.out _ (qT0.here nb) (qO0.here nb) (qP0.here nb) (hL0.here nb) (hK0.here nb)).mono ?_; rintro e v1 ⟨rfl, hb1⟩; rw [hz]; have hbw : Below w.heap.size w v1 := below_two nb hb1; have DP : Hid (Lay v1 (w.heap.size) [.int .i64 t0, .slice aT0 T0.length cT0, .slice aO0 O0.length cO0, .slice aP0 P0.length cP0, .slice aL0 L0.length cL0, .slice aK0 K0.length cK0, .int .i64 n0]) := DP0.out.next hb1; obtain ⟨p0, p1, p2, p3, p4, p5, p6⟩ := Lay.c7 (b := w.heap.size) DP.out; have zw := hbw.size; have zz := hb1.size)
     | (go_at_call 9; refine (toEngine_any t0 cT0 cO0 cP0 cL0 cK0 n0 (qT0.here hbw) (qO0.here hbw) (qP0.here hbw) (hL0.here hbw) (hK0.here hbw) nT nO nP nL zL nK zK).mono ?_; rintro e v2 ⟨g2T, g2O, g2P, g2L, g2K, rfl, e2, hbT⟩; have hbw : Below w.heap.size w v2 := below_two hbw hbT; have zw := hbw.size; have zz := hbT.size; clear p0 p1 p2 p3 p4 p5 p6; have DP := layN DP hbT; obtain ⟨p0, p1, p2, p3, p4, p5, p6⟩ := Lay.c7 (b := w.heap.size) DP.out)
     | (go_at_call 14; obtain ⟨QT, QO, QP, QL, QK⟩ := eng_read e2; refine (HSP.out _ _ _ _ _ _ _ _ _ _ _ QT QO QP QL QK).mono ?_; rintro e vS ⟨asT, csT, asO, csO, asP, csP, asL, csL, asK, csK, rfl, ey, hbP⟩; have HES : Hid (Eng vS v2.heap.size vS.heap.size (.slice asT YT.length csT) (.slice asO YO.length csO) (.slice asP YP.length csP) (.slice asL YL.length csL) (.slice asK YK.length csK) YT YO YP YL YK) := ey; have hbw : Below w.heap.size w vS := below_two hbw hbP; have zw := hbw.size; have zz := hbP.size; clear p0 p1 p2 p3 p4 p5 p6; have DP := layN DP hbP; obtain ⟨p0, p1, p2, p3, p4, p5, p6⟩ := Lay.c7 (b := w.heap.size) DP.out))
   obtain ⟨va, hva⟩ : ∃ x, x = vS.alloc (.cells #[.int .i64 YN, .slice asT YT.length csT, .slice asO YO.length csO, .slice asP YP.length csP, .slice asL YL.length csL, .slice asK YK.length csK, .int .i64 YX] 38) := ⟨_, rfl⟩
   obtain ⟨ba, eba⟩ : ∃ b, b = vS.heap.size := ⟨_, rfl⟩
   rw [← hva, ← eba]
   have yba : vS.heap.size ≤ ba ∧ ba ≤ vS.heap.size := by omega
   have uba : ba < va.heap.size := by rw [hva, eba]; simp
   have kva : Below vS.heap.size vS va := by rw [hva]; exact new_below _ _
   have DA : Hid (Lay va (ba) [.int .i64 YN, .slice asT YT.length csT, .slice asO YO.length csO, .slice asP YP.length csP, .slice asL YL.length csL, .slice asK YK.length csK, .int .i64 YX]) := by rw [hva, eba]; exact lay_new [.int .i64 YN, .slice asT YT.length csT, .slice asO YO.length csO, .slice asP YP.length csP, .slice asL YL.length csL, .slice asK YK.length csK, .int .i64 YX] _ rfl
   clear hva eba
   have hbw : Below w.heap.size w va := below_two hbw kva
   have zw := hbw.size
   have zz := kva.size
   clear p0 p1 p2 p3 p4 p5 p6
   have DP := layN DP kva
   obtain ⟨p0, p1, p2, p3, p4, p5, p6⟩ := Lay.c7 (b := w.heap.size) DP.out
   have HES := engN HES kva
   obtain ⟨sa0, sa1, sa2, sa3, sa4, sa5, sa6⟩ := Lay.c7 (b := ba) DA.out
   go_upto_region 7 with (first
     | (go_at_call 9; refine (toEngine_any t0 cT0 cO0 cP0 cL0 cK0 n0 (qT0.here hbw) (qO0.here hbw) (qP0.here hbw) (hL0.here hbw) (hK0.here hbw) nT nO nP nL zL nK zK).mono ?_; rintro e v4 ⟨gxT, gxO, gxP, gxL, gxK, rfl, ex, hbT⟩; have hbw : Below w.heap.size w v4 := below_two hbw hbT; have zw := hbw.size; have zz := hbT.size; clear p0 p1 p2 p3 p4 p5 p6; have DP := layN DP hbT; obtain ⟨p0, p1, p2, p3, p4, p5, p6⟩ := Lay.c7 (b := w.heap.size) DP.out; clear sa0 sa1 sa2 sa3 sa4 sa5 sa6; have DA := layN DA hbT; obtain ⟨sa0, sa1, sa2, sa3, sa4, sa5, sa6⟩ := Lay.c7 (b := ba) DA.out; have HES := engN HES hbT; have HEX : Hid (Eng v4 va.heap.size v4.heap.size (.slice (some ⟨gxT, 0, none⟩) T0.length T0.length) (.slice (some ⟨gxO, 0, none⟩) O0.length O0.length) (.slice (some ⟨gxP, 0, none⟩) P0.length P0.length) (.slice (some ⟨gxL, 0, none⟩) L0.length L0.length) (.slice (some ⟨gxK, 0, none⟩) K0.length K0.length) T0 O0 P0 L0 K0) := ex))
   obtain ⟨v5, hv5⟩ : ∃ x, x = v4.alloc (.cells #[.int .i64 t0, .slice (some ⟨gxT, 0, none⟩) T0.length T0.length, .slice (some ⟨gxO, 0, none⟩) O0.length O0.length, .slice (some ⟨gxP, 0, none⟩) P0.length P0.length, .slice (some ⟨gxL, 0, none⟩) L0.length L0.length, .slice (some ⟨gxK, 0, none⟩) K0.length K0.length, .int .i64 n0] 38) := ⟨_, rfl⟩
   obtain ⟨bx, ebx⟩ : ∃ b, b = v4.heap.size := ⟨_, rfl⟩
   rw [← hv5, ← ebx]
   have ybx : v4.heap.size ≤ bx ∧ bx ≤ v4.heap.size := by omega
   have ubx : bx < v5.heap.size := by rw [hv5, ebx]; simp
   have kv5 : Below v4.heap.size v4 v5 := by rw [hv5]; exact new_below _ _
   have DX : Hid (Lay v5 (bx) [.int .i64 t0, .slice (some ⟨gxT, 0, none⟩) T0.length T0.length, .slice (some ⟨gxO, 0, none⟩) O0.length O0.length, .slice (some ⟨gxP, 0, none⟩) P0.length P0.length, .slice (some ⟨gxL, 0, none⟩) L0.length L0.length, .slice (some ⟨gxK, 0, none⟩) K0.length K0.length, .int .i64 n0]) := by rw [hv5, ebx]; exact lay_new [.int .i64 t0, .slice (some ⟨gxT, 0, none⟩) T0.length T0.length, .slice (some ⟨gxO, 0, none⟩) O0.length O0.length, .slice (some ⟨gxP, 0, none⟩) P0.length P0.length, .slice (some ⟨gxL, 0, none⟩) L0.length L0.length, .slice (some ⟨gxK, 0, none⟩) K0.length K0.length, .int .i64 n0] _ rfl
   clear hv5 ebx
   have hbw : Below w.heap.size w v5 := below_two hbw kv5
   have zw := hbw.size
   have zz := kv5.size
   clear p0 p1 p2 p3 p4 p5 p6
   have DP := layN DP kv5
   obtain ⟨p0, p1, p2, p3, p4, p5, p6⟩ := Lay.c7 (b := w.heap.size) DP.out
   clear sa0 sa1 sa2 sa3 sa4 sa5 sa6
   have DA := layN DA kv5
   obtain ⟨sa0, sa1, sa2, sa3, sa4, sa5, sa6⟩ := Lay.c7 (b := ba) DA.out
   have HES := engN HES kv5
   have HEX := engN HEX kv5
   obtain ⟨xx0, xx1, xx2, xx3, xx4, xx5, xx6⟩ := Lay.c7 (b := bx) DX.out
   go_upto_region 8 with (first
     | (go_at_call 15; obtain ⟨QT, QO, QP, QL, QK⟩ := eng_read HEX.out; refine (HIM.out _ _ _ _ _ _ _ _ _ _ _ QT QO QP QL QK).mono ?_; rintro e vI ⟨aiT, ciT, aiO, ciO, aiP, ciP, aiL, ciL, aiK, ciK, rfl, ey, hbP⟩; have HEI : Hid (Eng vI v5.heap.size vI.heap.size (.slice aiT YT.length ciT) (.slice aiO YO.length ciO) (.slice aiP YP.length ciP) (.slice aiL YL.length ciL) (.slice aiK YK.length ciK) YT YO YP YL YK) := ey; have hbw : Below w.heap.size w vI := below_two hbw hbP; have zw := hbw.size; have zz := hbP.size; clear p0 p1 p2 p3 p4 p5 p6; have DP := layN DP hbP; obtain ⟨p0, p1, p2, p3, p4, p5, p6⟩ := Lay.c7 (b := w.heap.size) DP.out; clear sa0 sa1 sa2 sa3 sa4 sa5 sa6; have DA := layN DA hbP; obtain ⟨sa0, sa1, sa2, sa3, sa4, sa5, sa6⟩ := Lay.c7 (b := ba) DA.out; clear xx0 xx1 xx2 xx3 xx4 xx5 xx6; have DX := layN DX hbP; obtain ⟨xx0, xx1, xx2, xx3, xx4, xx5, xx6⟩ := Lay.c7 (b := bx) DX.out; have HES := engN HES hbP; have HEX := engN HEX hbP))
   obtain ⟨v6, hv6⟩ : ∃ x, x = vI.alloc (.cells #[.int .i64 YN, .slice aiT YT.length ciT, .slice aiO YO.length ciO, .slice aiP YP.length ciP, .slice aiL YL.length ciL, .slice aiK YK.length ciK, .int .i64 YX] 38) := ⟨_, rfl⟩
   obtain ⟨bg, ebg⟩ : ∃ b, b = vI.heap.size := ⟨_, rfl⟩
   rw [← hv6, ← ebg]
   have ybg : vI.heap.size ≤ bg ∧ bg ≤ vI.heap.size := by omega
   have ubg : bg < v6.heap.size := by rw [hv6, ebg]; simp
   have kv6 : Below vI.heap.size vI v6 := by rw [hv6]; exact new_below _ _
   have DG : Hid (Lay v6 (bg) [.int .i64 YN, .slice aiT YT.length ciT, .slice aiO YO.length ciO, .slice aiP YP.length ciP, .slice aiL YL.length ciL, .slice aiK YK.length ciK, .int .i64 YX]) := by rw [hv6, ebg]; exact lay_new [.int .i64 YN, .slice aiT YT.length ciT, .slice aiO YO.length ciO, .slice aiP YP.length ciP, .slice aiL YL.length ciL, .slice aiK YK.length ciK, .int .i64 YX] _ rfl
   clear hv6 ebg
   have hbw : Below w.heap.size w v6 := below_two hbw kv6
   have zw := hbw.size
   have zz := kv6.size
   clear p0 p1 p2 p3 p4 p5 p6
   have DP := layN DP kv6
   obtain ⟨p0, p1, p2, p3, p4, p5, p6⟩ := Lay.c7 (b := w.heap.size) DP.out
   clear sa0 sa1 sa2 sa3 sa4 sa5 sa6
   have DA := layN DA kv6
   obtain ⟨sa0, sa1, sa2, sa3, sa4, sa5, sa6⟩ := Lay.c7 (b := ba) DA.out
   clear xx0 xx1 xx2 xx3 xx4 xx5 xx6
   have DX := layN DX kv6
   obtain ⟨xx0, xx1, xx2, xx3, xx4, xx5, xx6⟩ := Lay.c7 (b := bx) DX.out
   have HES := engN HES kv6
   have HEX := engN HEX kv6
   have HEI := engN HEI kv6
   obtain ⟨ga0, ga1, ga2, ga3, ga4, ga5, ga6⟩ := Lay.c7 (b := bg) DG.out
   go_upto_region 10 with (first
     | (go_at_call 11; obtain ⟨QT, QO, QP, QL, QK⟩ := eng_read HEI.out; obtain ⟨RT, RO, RP, RL, RK⟩ := eng_read HES.out; refine (eqEngine_same YN _ _ _ _ _ YX _ _ _ _ _ QT QO QP QL QK RT RO RP RL RK yT yO yP yLl yLm yKl yKm).mono ?_; rintro e v7 ⟨rfl, hbE⟩; have hbw : Below w.heap.size w v7 := below_two hbw hbE; have zw := hbw.size; have zz := hbE.size; clear p0 p1 p2 p3 p4 p5 p6; have DP := layN DP hbE; obtain ⟨p0, p1, p2, p3, p4, p5, p6⟩ := Lay.c7 (b := w.heap.size) DP.out; clear sa0 sa1 sa2 sa3 sa4 sa5 sa6; have DA := layN DA hbE; obtain ⟨sa0, sa1, sa2, sa3, sa4, sa5, sa6⟩ := Lay.c7 (b := ba) DA.out; clear xx0 xx1 xx2 xx3 xx4 xx5 xx6; have DX := layN DX hbE; obtain ⟨xx0, xx1, xx2, xx3, xx4, xx5, xx6⟩ := Lay.c7 (b := bx) DX.out; clear ga0 ga1 ga2 ga3 ga4 ga5 ga6; have DG := layN DG hbE; obtain ⟨ga0, ga1, ga2, ga3, ga4, ga5, ga6⟩ := Lay.c7 (b := bg) DG.out; have HES := engN HES hbE; have HEX := engN HEX hbE; have HEI := engN HEI hbE))
   have HS : Hid (∀ w', Below v7.heap.size v7 w' → (fun w' => w'.cell? ⟨w.heap.size, 0, none⟩ = some (.int .i64 t0) ∧ w'.cell? ⟨w.heap.size, 1, none⟩ = some (.slice aT0 T0.length cT0) ∧ w'.cell? ⟨w.heap.size, 2, none⟩ = some (.slice aO0 O0.length cO0) ∧ w'.cell? ⟨w.heap.size, 3, none⟩ = some (.slice aP0 P0.length cP0) ∧ w'.cell? ⟨w.heap.size, 4, none⟩ = some (.slice aL0 L0.length cL0) ∧ w'.cell? ⟨w.heap.size, 5, none⟩ = some (.slice aK0 K0.length cK0) ∧ w'.cell? ⟨w.heap.size, 6, none⟩ = some (.int .i64 n0) ∧ w'.cell? ⟨bx, 0, none⟩ = some (.int .i64 t0) ∧ w'.cell? ⟨bx, 1, none⟩ = some (.slice (some ⟨gxT, 0, none⟩) T0.length T0.length) ∧ w'.cell? ⟨bx, 2, none⟩ = some (.slice (some ⟨gxO, 0, none⟩) O0.length O0.length) ∧ w'.cell? ⟨bx, 3, none⟩ = some (.slice (some ⟨gxP, 0, none⟩) P0.length P0.length) ∧ w'.cell? ⟨bx, 4, none⟩ = some (.slice (some ⟨gxL, 0, none⟩) L0.length L0.length) ∧ w'.cell? ⟨bx, 5, none⟩ = some (.slice (some ⟨gxK, 0, none⟩) K0.length K0.length) ∧ w'.cell? ⟨bx, 6, none⟩ = some (.int .i64 n0)) w') := fun w' h => ⟨(DP.out.next h).cell 0 _ rfl, (DP.out.next h).cell 1 _ rfl, (DP.out.next h).cell 2 _ rfl, (DP.out.next h).cell 3 _ rfl, (DP.out.next h).cell 4 _ rfl, (DP.out.next h).cell 5 _ rfl, (DP.out.next h).cell 6 _ rfl, (DX.out.next h).cell 0 _ rfl, (DX.out.next h).cell 1 _ rfl, (DX.out.next h).cell 2 _ rfl, (DX.out.next h).cell 3 _ rfl, (DX.out.next h).cell 4 _ rfl, (DX.out.next h).cell 5 _ rfl, (DX.out.next h).cell 6 _ rfl⟩
   have hr : Below v7.heap.size v7 v7.drew := (Below.refl _ _).drew
   refine wp_region_held_drew (S := fun w' => w'.cell? ⟨w.heap.size, 0, none⟩ = some (.int .i64 t0) ∧ w'.cell? ⟨w.heap.size, 1, none⟩ = some (.slice aT0 T0.length cT0) ∧ w'.cell? ⟨w.heap.size, 2, none⟩ = some (.slice aO0 O0.length cO0) ∧ w'.cell? ⟨w.heap.size, 3, none⟩ = some (.slice aP0 P0.length cP0) ∧ w'.cell? ⟨w.heap.size, 4, none⟩ = some (.slice aL0 L0.length cL0) ∧ w'.cell? ⟨w.heap.size, 5, none⟩ = some (.slice aK0 K0.length cK0) ∧ w'.cell? ⟨w.heap.size, 6, none⟩ = some (.int .i64 n0) ∧ w'.cell? ⟨bx, 0, none⟩ = some (.int .i64 t0) ∧ w'.cell? ⟨bx, 1, none⟩ = some (.slice (some ⟨gxT, 0, none⟩) T0.length T0.length) ∧ w'.cell? ⟨bx, 2, none⟩ = some (.slice (some ⟨gxO, 0, none⟩) O0.length O0.length) ∧ w'.cell? ⟨bx, 3, none⟩ = some (.slice (some ⟨gxP, 0, none⟩) P0.length P0.length) ∧ w'.cell? ⟨bx, 4, none⟩ = some (.slice (some ⟨gxL, 0, none⟩) L0.length L0.length) ∧ w'.cell? ⟨bx, 5, none⟩ = some (.slice (some ⟨gxK, 0, none⟩) K0.length K0.length) ∧ w'.cell? ⟨bx, 6, none⟩ = some (.int .i64 n0)) (by kernel_rfl) (HS.out _ hr) (fun hS => ?_)
   refine anyR 0 rfl ?_
   refine anyR 1 rfl ?_
   refine anyC 2 rfl fun Kr hKr => ?_
   go_simp
   (refine (toEngine_any t0 cT0 cO0 cP0 cL0 cK0 n0 (qT0.here (below_two hbw hr)) (qO0.here (below_two hbw hr)) (qP0.here (below_two hbw hr)) (hL0.here (below_two hbw hr)) (hK0.here (below_two hbw hr)) nT nO nP nL zL nK zK).mono ?_; rintro e x1 ⟨gFT, gFO, gFP, gFL, gFK, rfl, EF, hbq⟩; have HEF : Hid (Eng x1 v7.drew.heap.size x1.heap.size (.slice (some ⟨gFT, 0, none⟩) T0.length T0.length) (.slice (some ⟨gFO, 0, none⟩) O0.length O0.length) (.slice (some ⟨gFP, 0, none⟩) P0.length P0.length) (.slice (some ⟨gFL, 0, none⟩) L0.length L0.length) (.slice (some ⟨gFK, 0, none⟩) K0.length K0.length) T0 O0 P0 L0 K0) := EF; have hr := hr.trans (hbq.mono hr.size); have hSq := HS.out _ hr)
   refine hKr.out _ _ ‹_› fun _ => ?_
   try simp only [nrm]
   refine anyC 3 rfl fun Kr hKr => ?_
   go_simp
   (obtain ⟨QT, QO, QP, QL, QK⟩ := eng_read (Eng.next HEX.out hr); obtain ⟨RT, RO, RP, RL, RK⟩ := eng_read HEF.out; refine (eqEngine_same t0 _ _ _ _ _ n0 _ _ _ _ _ QT QO QP QL QK RT RO RP RL RK (by omega) (by omega) (by omega) (by omega) yL (by omega) yK).mono ?_; rintro e x2 ⟨rfl, hbq⟩; have hr := hr.trans (hbq.mono hr.size); have hSq := HS.out _ hr)
   refine hKr.out _ _ ‹_› fun _ => ?_
   try simp only [nrm]
   refine anyR 4 rfl ?_
   refine wpAnyH_done (by kernel_rfl) ?_ _
   go_upto_region 13 with (fail)
   have hbw : Below w.heap.size w x2 := below_two hbw hr
   have zw := hbw.size
   have zz := hr.size
   clear p0 p1 p2 p3 p4 p5 p6
   have DP := layN DP hr
   obtain ⟨p0, p1, p2, p3, p4, p5, p6⟩ := Lay.c7 (b := w.heap.size) DP.out
   clear sa0 sa1 sa2 sa3 sa4 sa5 sa6
   have DA := layN DA hr
   obtain ⟨sa0, sa1, sa2, sa3, sa4, sa5, sa6⟩ := Lay.c7 (b := ba) DA.out
   clear xx0 xx1 xx2 xx3 xx4 xx5 xx6
   have DX := layN DX hr
   obtain ⟨xx0, xx1, xx2, xx3, xx4, xx5, xx6⟩ := Lay.c7 (b := bx) DX.out
   clear ga0 ga1 ga2 ga3 ga4 ga5 ga6
   have DG := layN DG hr
   obtain ⟨ga0, ga1, ga2, ga3, ga4, ga5, ga6⟩ := Lay.c7 (b := bg) DG.out
   have HES := engN HES hr
   have HEX := engN HEX hr
   have HEI := engN HEI hr
   go_upto_region 14 with (first
     | (go_at_call 12; refine (markEngine_any t0 n0 1 HEX.out HTOT.out.1 HTOT.out.2.1 HTOT.out.2.2 (by omega) (by omega)).mono ?_; rintro e v8 ⟨rfl, em, ho8⟩; rw [HKX.out]; clear em; have hbw : Below w.heap.size w v8 := hbw.trans (OnlyI.below ho8 (by omega) (by omega)); have zw := hbw.size; have zz := ho8.size; clear p0 p1 p2 p3 p4 p5 p6; have DP := layI DP ho8 (by omega); obtain ⟨p0, p1, p2, p3, p4, p5, p6⟩ := Lay.c7 (b := w.heap.size) DP.out; clear sa0 sa1 sa2 sa3 sa4 sa5 sa6; have DA := layI DA ho8 (by omega); obtain ⟨sa0, sa1, sa2, sa3, sa4, sa5, sa6⟩ := Lay.c7 (b := ba) DA.out; clear xx0 xx1 xx2 xx3 xx4 xx5 xx6; have DX := layI DX ho8 (by omega); obtain ⟨xx0, xx1, xx2, xx3, xx4, xx5, xx6⟩ := Lay.c7 (b := bx) DX.out; clear ga0 ga1 ga2 ga3 ga4 ga5 ga6; have DG := layI DG ho8 (by omega); obtain ⟨ga0, ga1, ga2, ga3, ga4, ga5, ga6⟩ := Lay.c7 (b := bg) DG.out; have HES := engI HES ho8 (by omega); have HEI := engI HEI ho8 (by omega); clear HEX))
   go_upto_region 17 with (first
     | (go_at_call 11; obtain ⟨QT, QO, QP, QL, QK⟩ := eng_read HEI.out; obtain ⟨RT, RO, RP, RL, RK⟩ := eng_read HES.out; refine (eqEngine_same YN _ _ _ _ _ YX _ _ _ _ _ QT QO QP QL QK RT RO RP RL RK yT yO yP yLl yLm yKl yKm).mono ?_; rintro e v9 ⟨rfl, hbE⟩; have hbw : Below w.heap.size w v9 := below_two hbw hbE; have zw := hbw.size; have zz := hbE.size; clear p0 p1 p2 p3 p4 p5 p6; have DP := layN DP hbE; obtain ⟨p0, p1, p2, p3, p4, p5, p6⟩ := Lay.c7 (b := w.heap.size) DP.out; clear sa0 sa1 sa2 sa3 sa4 sa5 sa6; have DA := layN DA hbE; obtain ⟨sa0, sa1, sa2, sa3, sa4, sa5, sa6⟩ := Lay.c7 (b := ba) DA.out; clear xx0 xx1 xx2 xx3 xx4 xx5 xx6; have DX := layN DX hbE; obtain ⟨xx0, xx1, xx2, xx3, xx4, xx5, xx6⟩ := Lay.c7 (b := bx) DX.out; clear ga0 ga1 ga2 ga3 ga4 ga5 ga6; have DG := layN DG hbE; obtain ⟨ga0, ga1, ga2, ga3, ga4, ga5, ga6⟩ := Lay.c7 (b := bg) DG.out; have HES := engN HES hbE; have HEI := engN HEI hbE))
   go_upto_region 18 with (first
     | (go_at_call 12; refine (markEngine_any YN YX 1 HEI.out HTY.out.1 HTY.out.2.1 HTY.out.2.2 (by omega) (by omega)).mono ?_; rintro e v10 ⟨rfl, em, ho10⟩; rw [HKM.out]; have HEM : Hid (EngM v10 v5.heap.size vI.heap.size (.slice aiT YT.length ciT) (.slice aiO YO.length ciO) (.slice aiP YP.length ciP) (.slice aiL YL.length ciL) (.slice aiK YK.length ciK) 1 YT YO YP YL YK) := em; clear HEI em; have hbw : Below w.heap.size w v10 := hbw.trans (OnlyI.below ho10 (by omega) (by omega)); have zw := hbw.size; have zz := ho10.size; clear p0 p1 p2 p3 p4 p5 p6; have DP := layI DP ho10 (by omega); obtain ⟨p0, p1, p2, p3, p4, p5, p6⟩ := Lay.c7 (b := w.heap.size) DP.out; clear sa0 sa1 sa2 sa3 sa4 sa5 sa6; have DA := layI DA ho10 (by omega); obtain ⟨sa0, sa1, sa2, sa3, sa4, sa5, sa6⟩ := Lay.c7 (b := ba) DA.out; clear xx0 xx1 xx2 xx3 xx4 xx5 xx6; have DX := layI DX ho10 (by omega); obtain ⟨xx0, xx1, xx2, xx3, xx4, xx5, xx6⟩ := Lay.c7 (b := bx) DX.out; clear ga0 ga1 ga2 ga3 ga4 ga5 ga6; have DG := layI DG ho10 (by omega); obtain ⟨ga0, ga1, ga2, ga3, ga4, ga5, ga6⟩ := Lay.c7 (b := bg) DG.out; have HES := engI HES ho10 (by omega)))
   go_upto_region 24 with (first
     | (go_at_call 13; refine (heldEngine_any YN YX 1 HEM.out HTY.out.1 HTY.out.2.1 HTY.out.2.2 (by omega) (by omega)).mono ?_; rintro e v11 ⟨rfl, hbH⟩; rw [HKM.out]; have hbw : Below w.heap.size w v11 := below_two hbw hbH; have zw := hbw.size; have zz := hbH.size; clear p0 p1 p2 p3 p4 p5 p6; have DP := layN DP hbH; obtain ⟨p0, p1, p2, p3, p4, p5, p6⟩ := Lay.c7 (b := w.heap.size) DP.out; clear sa0 sa1 sa2 sa3 sa4 sa5 sa6; have DA := layN DA hbH; obtain ⟨sa0, sa1, sa2, sa3, sa4, sa5, sa6⟩ := Lay.c7 (b := ba) DA.out; clear xx0 xx1 xx2 xx3 xx4 xx5 xx6; have DX := layN DX hbH; obtain ⟨xx0, xx1, xx2, xx3, xx4, xx5, xx6⟩ := Lay.c7 (b := bx) DX.out; clear ga0 ga1 ga2 ga3 ga4 ga5 ga6; have DG := layN DG hbH; obtain ⟨ga0, ga1, ga2, ga3, ga4, ga5, ga6⟩ := Lay.c7 (b := bg) DG.out; have HES := engN HES hbH; have HEM := engMN HEM hbH))
   go_upto_region 25 with (first
     | (go_at_call 9; refine (toEngine_any t0 cT0 cO0 cP0 cL0 cK0 n0 (qT0.here hbw) (qO0.here hbw) (qP0.here hbw) (hL0.here hbw) (hK0.here hbw) nT nO nP nL zL nK zK).mono ?_; rintro e vR ⟨grT, grO, grP, grL, grK, rfl, er, hbT⟩; have hbw : Below w.heap.size w vR := below_two hbw hbT; have zw := hbw.size; have zz := hbT.size; clear p0 p1 p2 p3 p4 p5 p6; have DP := layN DP hbT; obtain ⟨p0, p1, p2, p3, p4, p5, p6⟩ := Lay.c7 (b := w.heap.size) DP.out; clear sa0 sa1 sa2 sa3 sa4 sa5 sa6; have DA := layN DA hbT; obtain ⟨sa0, sa1, sa2, sa3, sa4, sa5, sa6⟩ := Lay.c7 (b := ba) DA.out; clear xx0 xx1 xx2 xx3 xx4 xx5 xx6; have DX := layN DX hbT; obtain ⟨xx0, xx1, xx2, xx3, xx4, xx5, xx6⟩ := Lay.c7 (b := bx) DX.out; clear ga0 ga1 ga2 ga3 ga4 ga5 ga6; have DG := layN DG hbT; obtain ⟨ga0, ga1, ga2, ga3, ga4, ga5, ga6⟩ := Lay.c7 (b := bg) DG.out; have HES := engN HES hbT; have HEM := engMN HEM hbT)
     | (go_at_call 15; obtain ⟨QT, QO, QP, QL, QK⟩ := eng_read er; refine (HIM.out _ _ _ _ _ _ _ _ _ _ _ QT QO QP QL QK).mono ?_; rintro e vH ⟨ahT, chT, ahO, chO, ahP, chP, ahL, chL, ahK, chK, rfl, ey, hbP⟩; have HEH : Hid (Eng vH vR.heap.size vH.heap.size (.slice ahT YT.length chT) (.slice ahO YO.length chO) (.slice ahP YP.length chP) (.slice ahL YL.length chL) (.slice ahK YK.length chK) YT YO YP YL YK) := ey; have hbw : Below w.heap.size w vH := below_two hbw hbP; have zw := hbw.size; have zz := hbP.size; clear p0 p1 p2 p3 p4 p5 p6; have DP := layN DP hbP; obtain ⟨p0, p1, p2, p3, p4, p5, p6⟩ := Lay.c7 (b := w.heap.size) DP.out; clear sa0 sa1 sa2 sa3 sa4 sa5 sa6; have DA := layN DA hbP; obtain ⟨sa0, sa1, sa2, sa3, sa4, sa5, sa6⟩ := Lay.c7 (b := ba) DA.out; clear xx0 xx1 xx2 xx3 xx4 xx5 xx6; have DX := layN DX hbP; obtain ⟨xx0, xx1, xx2, xx3, xx4, xx5, xx6⟩ := Lay.c7 (b := bx) DX.out; clear ga0 ga1 ga2 ga3 ga4 ga5 ga6; have DG := layN DG hbP; obtain ⟨ga0, ga1, ga2, ga3, ga4, ga5, ga6⟩ := Lay.c7 (b := bg) DG.out; have HES := engN HES hbP; have HEM := engMN HEM hbP))
   obtain ⟨v12, hv12⟩ : ∃ x, x = vH.alloc (.cells #[.int .i64 YN, .slice ahT YT.length chT, .slice ahO YO.length chO, .slice ahP YP.length chP, .slice ahL YL.length chL, .slice ahK YK.length chK, .int .i64 YX] 38) := ⟨_, rfl⟩
   obtain ⟨bh, ebh⟩ : ∃ b, b = vH.heap.size := ⟨_, rfl⟩
   rw [← hv12, ← ebh]
   have ybh : vH.heap.size ≤ bh ∧ bh ≤ vH.heap.size := by omega
   have ubh : bh < v12.heap.size := by rw [hv12, ebh]; simp
   have kv12 : Below vH.heap.size vH v12 := by rw [hv12]; exact new_below _ _
   have DH : Hid (Lay v12 (bh) [.int .i64 YN, .slice ahT YT.length chT, .slice ahO YO.length chO, .slice ahP YP.length chP, .slice ahL YL.length chL, .slice ahK YK.length chK, .int .i64 YX]) := by rw [hv12, ebh]; exact lay_new [.int .i64 YN, .slice ahT YT.length chT, .slice ahO YO.length chO, .slice ahP YP.length chP, .slice ahL YL.length chL, .slice ahK YK.length chK, .int .i64 YX] _ rfl
   clear hv12 ebh
   have hbw : Below w.heap.size w v12 := below_two hbw kv12
   have zw := hbw.size
   have zz := kv12.size
   clear p0 p1 p2 p3 p4 p5 p6
   have DP := layN DP kv12
   obtain ⟨p0, p1, p2, p3, p4, p5, p6⟩ := Lay.c7 (b := w.heap.size) DP.out
   clear sa0 sa1 sa2 sa3 sa4 sa5 sa6
   have DA := layN DA kv12
   obtain ⟨sa0, sa1, sa2, sa3, sa4, sa5, sa6⟩ := Lay.c7 (b := ba) DA.out
   clear xx0 xx1 xx2 xx3 xx4 xx5 xx6
   have DX := layN DX kv12
   obtain ⟨xx0, xx1, xx2, xx3, xx4, xx5, xx6⟩ := Lay.c7 (b := bx) DX.out
   clear ga0 ga1 ga2 ga3 ga4 ga5 ga6
   have DG := layN DG kv12
   obtain ⟨ga0, ga1, ga2, ga3, ga4, ga5, ga6⟩ := Lay.c7 (b := bg) DG.out
   have HES := engN HES kv12
   have HEM := engMN HEM kv12
   have HEH := engN HEH kv12
   obtain ⟨ha0, ha1, ha2, ha3, ha4, ha5, ha6⟩ := Lay.c7 (b := bh) DH.out
   go_upto_region 27 with (first
     | (go_at_call 11; obtain ⟨QT, QO, QP, QL, QK⟩ := eng_read HEH.out; obtain ⟨RT, RO, RP, RL, RK⟩ := eng_read HES.out; refine (eqEngine_same YN _ _ _ _ _ YX _ _ _ _ _ QT QO QP QL QK RT RO RP RL RK yT yO yP yLl yLm yKl yKm).mono ?_; rintro e v13 ⟨rfl, hbE⟩; have hbw : Below w.heap.size w v13 := below_two hbw hbE; have zw := hbw.size; have zz := hbE.size; clear p0 p1 p2 p3 p4 p5 p6; have DP := layN DP hbE; obtain ⟨p0, p1, p2, p3, p4, p5, p6⟩ := Lay.c7 (b := w.heap.size) DP.out; clear sa0 sa1 sa2 sa3 sa4 sa5 sa6; have DA := layN DA hbE; obtain ⟨sa0, sa1, sa2, sa3, sa4, sa5, sa6⟩ := Lay.c7 (b := ba) DA.out; clear xx0 xx1 xx2 xx3 xx4 xx5 xx6; have DX := layN DX hbE; obtain ⟨xx0, xx1, xx2, xx3, xx4, xx5, xx6⟩ := Lay.c7 (b := bx) DX.out; clear ga0 ga1 ga2 ga3 ga4 ga5 ga6; have DG := layN DG hbE; obtain ⟨ga0, ga1, ga2, ga3, ga4, ga5, ga6⟩ := Lay.c7 (b := bg) DG.out; clear ha0 ha1 ha2 ha3 ha4 ha5 ha6; have DH := layN DH hbE; obtain ⟨ha0, ha1, ha2, ha3, ha4, ha5, ha6⟩ := Lay.c7 (b := bh) DH.out; have HES := engN HES hbE; have HEM := engMN HEM hbE; have HEH := engN HEH hbE))
   go_wp2_with (first
     | (go_at_call 13; refine (heldEngine_any YN YX 1 HEM.out HTY.out.1 HTY.out.2.1 HTY.out.2.2 (by omega) (by omega)).mono ?_; rintro e v14 ⟨rfl, hbH⟩; rw [HKM.out]; have hbw : Below w.heap.size w v14 := below_two hbw hbH; have zw := hbw.size; have zz := hbH.size; clear p0 p1 p2 p3 p4 p5 p6; have DP := layN DP hbH; obtain ⟨p0, p1, p2, p3, p4, p5, p6⟩ := Lay.c7 (b := w.heap.size) DP.out; clear sa0 sa1 sa2 sa3 sa4 sa5 sa6; have DA := layN DA hbH; obtain ⟨sa0, sa1, sa2, sa3, sa4, sa5, sa6⟩ := Lay.c7 (b := ba) DA.out; clear xx0 xx1 xx2 xx3 xx4 xx5 xx6; have DX := layN DX hbH; obtain ⟨xx0, xx1, xx2, xx3, xx4, xx5, xx6⟩ := Lay.c7 (b := bx) DX.out; clear ga0 ga1 ga2 ga3 ga4 ga5 ga6; have DG := layN DG hbH; obtain ⟨ga0, ga1, ga2, ga3, ga4, ga5, ga6⟩ := Lay.c7 (b := bg) DG.out; clear ha0 ha1 ha2 ha3 ha4 ha5 ha6; have DH := layN DH hbH; obtain ⟨ha0, ha1, ha2, ha3, ha4, ha5, ha6⟩ := Lay.c7 (b := bh) DH.out; have HES := engN HES hbH; have HEM := engMN HEM hbH; have HEH := engN HEH hbH))
   go_ret
   exact ⟨rfl, hbw⟩
 · have hz : (if tot ≤ 1048576 then 1048576 - tot else -1) = -1 := if_neg hs
   go_enter Tryz.func4, Tryz.ntmps4
   go_wp2_with (first | (go_at_call 7; refine (HSZ.out _ (qT0.here nb) (qO0.here nb) (qP0.here nb) (hL0.here nb) (hK0.here nb)).mono ?_; rintro e v1 ⟨rfl, hb1⟩; rw [hz]; have hbw : Below w.heap.size w v1 := below_two nb hb1))
   go_ret
   exact ⟨rfl, hbw⟩

/-! ### THE ROW's STEP -/
set_option maxRecDepth 100000 in
theorem lifted (os : Os) (started : os.Started) (H : Type) (enc : TypeId × Value → H) :
   ReturnsInHanded {} Tryz.checked os 4 .any (Rows.fnExactAckedSpec.pre6 enc Tryz.prog Tryz.f4 Rows.fnExactAckedRow.domain false) (Rows.fnExactAckedSpec.post enc Tryz.prog Tryz.f4 false true false false) := by
 refine returnsInHanded_of_change (C := Tryz.checked) own started (by kernel_rfl) Tryz.func4
   (ChangeSpec.witness6 (enc := enc) (C := Tryz.checked) false ⟨#[], #[.agg #[.int .i64 0, .slice none 0 0, .slice none 0 0, .slice none 0 0, .slice none 0 0, .slice none 0 0, .int .i64 0], .int .i64 0, .int .i64 0], []⟩ 8 (by kernel_rfl) (by kernel_rfl) (by kernel_rfl) (by kernel_rfl)) ?_
 intro W base args ds gs before hval0 hW hcnd _
 have hval : ∀ (j : Nat) t v, Tryz.f4.params[j]? = some t → args[j]? = some v → Value.okWide Tryz.prog W .any base t v := hval0
 have hW' := hW
 have hlt := hW'.lt
 obtain ⟨p, q, hA0, hV, rfl, hfz, hnd⟩ := hW
 have hA : DataW.TrodAll enc Tryz.prog W 0 (fun _ => true) true Tryz.f4.params.toList args.toList ds p := hA0
 rw [Tryz.params4] at hA hval
 have hR := hA
 obtain ⟨v0, vs0, d0, ds0, p0, q0, hargs, rfl, rfl, h0, r0⟩ := trodAll_cons hA
 obtain ⟨v1, vs1, d1, ds1, p1, q1, rfl, rfl, rfl, h1, r1⟩ := trodAll_cons r0
 obtain ⟨v2, vs2, d2, ds2, p2, q2, rfl, rfl, rfl, h2, r2⟩ := trodAll_cons r1
 obtain ⟨rfl, rfl, rfl⟩ := trodAll_nil r2
 obtain rfl : args = #[v0, v1, v2] := by cases args; simp_all
 obtain ⟨rfl, rfl⟩ := trodVars_none hV
 obtain ⟨t0, aT0, cT0, T0, aO0, cO0, O0, aP0, cP0, P0, aL0, cL0, L0, aK0, cK0, K0, n0, rfl, it0, qT0, qO0, qP0, mT0, mO0, mP0, hL0, mL0, sL0, hK0, mK0, sK0, in0⟩ := open_engine (hval 0 29 v0 rfl rfl) h0
 obtain ⟨a1, rfl, rfl, rfl, w1⟩ := open_int Tryz.underlying2 (hval 1 2 v1 rfl rfl) h1
 obtain ⟨a2, rfl, rfl, rfl, w2⟩ := open_int Tryz.underlying2 (hval 2 2 v2 rfl rfl) h2
 clear hA0 hval0
 refine (walk W t0 aT0 cT0 T0 aO0 cO0 O0 aP0 cP0 P0 aL0 cL0 L0 aK0 cK0 K0 n0 it0 qT0 qO0 qP0 mT0 mO0 mP0 hL0 mL0 sL0 hK0 mK0 sK0 in0 a1 w1 a2 w2).mono fun e W' ⟨he, hg⟩ => ?_
 subst he
 exact ⟨_, rfl, _, _, _, [], _, [], hW', (trodAll_cons_mk (shut_bool Tryz.underlying4 _) trodAll_mk0), trodAll_after table_ok hg (by decide) hR (fun x hx => hlt x (List.mem_append.2 (.inl hx))), rfl, hg.frame _, fun h => by cases h⟩

theorem over : Rows.fnExactAckedRow.holds Tryz.pinned (OpenSpec.ofChange Rows.fnExactAckedSpec) :=
 OpenClaim.holds_of_wide 4 Tryz.f4 rfl rfl rfl rfl rfl rfl rfl ⟨rfl, rfl, rfl, rfl, rfl⟩ rfl rfl rfl rfl rfl (by kernel_rfl) Tryz.func4 (by kernel_rfl)
   (of_decide_eq_true (by kernel_rfl)) (by unfold Func.isWrapper; first | (rw [if_pos (by decide +kernel)]; kernel_rfl) | (rw [if_neg (by decide +kernel)]; exact ⟨rfl, rfl⟩))
   (fun os started H enc _ => lifted os started H enc)

theorem proved : Rows.FnExactAckedSaid := over
#print axioms proved
end Go.Proofs.YtkohlmloobojfaaGreat.fnExactAcked
namespace Go.Proofs.YtkohlmloobojfaaGreat
theorem fnExactAcked_holds : Rows.FnExactAckedSaid := fnExactAcked.proved
#print axioms fnExactAcked_holds
end Go.Proofs.YtkohlmloobojfaaGreat
