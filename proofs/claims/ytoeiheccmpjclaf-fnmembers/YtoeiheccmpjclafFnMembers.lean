/- Proved: whatever the bytes, the law FnMembers returns true (at the Places and numbers that the model draws of them impl's Join and Quit answer as spec's do; who joins is a member until they quit, and the place is then as it was; nobody joins twice; a share does not grow by it), and the bytes read as before; no condition. -/
import Derived.Test.YtoeiheccmpjclafRows
import Derived.WalkKit
import Derived.ProofKit
import Derived.OpenShut
import Derived.ShutString
import Derived.ChangeOld
import Derived.Below
import Derived.Test.YtoeiheccmpjclafDraw13c
import Derived.Test.YtoeiheccmpjclafMembMath
import Derived.Test.YtoeiheccmpjclafDrawLevel
import Derived.Deep.RegionHeld3
namespace Go.Proofs.Ytoeiheccmpjclaf.fnMembers
open Go.ChangeShapes Go.WideShapes Go.ChangeAt Go.RowKit
open Go.ChangeMaps (open_string shut_string)
set_option linter.unusedVariables false

theorem own : ownKnob Try.prog.godebug = none := by kernel_rfl
theorem laidOut : laidOutB Try.prog = true := by kernel_rfl

/-- WHAT THE WALK IS TOLD OF A SLICE OF INTEGERS THAT CAME IN: it is nil; or it leads to a row of 'cap' cells, the numbers 'zs' (the first 'len' are its elements, the rest its spare room), each fitting its kind. -/
def IsRow (k : IntKind) (w : World) (a : Option Addr) (len cap : Nat) (zs : List Int) : Prop :=
  (a = none ∧ len = 0 ∧ cap = 0 ∧ zs = []) ∨
  ∃ x, a = some x ∧ len ≤ cap ∧ cap ≤ maxLen ∧ zs.length = cap ∧ (∀ i, i < zs.length → w.cell? (x.add i) = some (.int k (zs.getD i 0))) ∧ ∀ n ∈ zs, (Lit.int k n).wf = true

set_option linter.unusedSimpArgs false
set_option linter.unusedVariables false
set_option maxRecDepth 100000
theorem row_of {w : World} {a : Option Addr} {len cap : Nat} {zs : List Int} (h : IsRow .u8 w a len cap zs) : Row w.heap.size a len w := by
  intro i hi
  rcases h with ⟨rfl, rfl, rfl, rfl⟩ | ⟨x, rfl, hl, hm, hz, hcell, hwz⟩
  · omega
  · obtain ⟨b, off, spot⟩ := x
    have hspot : spot = none := by simpa [Addr.add] using World.cell?_spot (hcell 0 (by omega))
    subst hspot
    have hc := hcell i (by omega)
    have hc' : w.cell? ⟨b, off + i, none⟩ = some (.int .u8 (zs.getD i 0)) := by
      by_cases h0 : i = 0
      · subst h0; simpa [Addr.add] using hc
      · simpa [Addr.add, h0] using hc
    have hlt : i < zs.length := by omega
    have hm : zs.getD i 0 ∈ zs := by simp [List.getD, List.getElem?_eq_getElem hlt]
    obtain ⟨z0, z1⟩ := bounds_u8 (hwz _ hm)
    exact ⟨b, off, zs.getD i 0, rfl, World.block_lt_of_cell? w _ hc', hc', z0, z1⟩

/-! ### STEP 1: THE WALK: the Go text returns true, AND WRITES NOTHING THAT WAS THERE: 'Below w.heap.size w w'' (Derived/Below.lean: '.refl', '.alloc', '.drew', '.setCell' at a new block, '.trans'). Open each 'IsRow' by 'rcases' AHEAD of 'go_enter'; part every test ahead of the walk. -/
set_option maxHeartbeats 16000000 in
theorem walk (a0 : Option Addr) (len0 cap0 : Nat) (z0 : List Int) (w : World) (w0 : IsRow .u8 w a0 len0 cap0 z0) :
    Calls Try.prog 4 #[.slice a0 len0 cap0] w fun e w' => e = .returned (.bool true) ∧ Below w.heap.size w w' := by
  have row := row_of w0
  by_cases hs : len0 ≤ 4096
  · go_enter Try.func4, Try.ntmps4
    go_upto_region 4 with (first
      | (go_at_call 15; refine (drawJoin_any cap0 hs row (Nat.le_refl _)).mono ?_; rintro e v1 ⟨wd0, fl0, aD, nD, cD, xD, m1, rfl, fvD, leD, hbw⟩; obtain ⟨eD, hcD⟩ := iv_len fvD; subst eD; have HCD : Hid (xD.length ≤ cD) := hcD; clear hcD)
      | go_in)
    obtain ⟨v2, hv2⟩ : ∃ x, x = v1.alloc (.cells #[.int .i64 wd0, .int .i64 fl0, .slice aD xD.length cD] 37) := ⟨_, rfl⟩
    obtain ⟨b3, eb3⟩ : ∃ b, b = v1.heap.size := ⟨_, rfl⟩
    rw [← hv2, ← eb3]
    have yb3 : v1.heap.size ≤ b3 := by omega
    have ub3 : b3 < v2.heap.size := by rw [hv2, eb3]; simp
    have kv2 : Below v1.heap.size v1 v2 := by rw [hv2]; exact new_below _ _
    have DP : Hid (Qc v2 (b3) wd0 fl0 (.slice aD xD.length cD)) := by rw [hv2, eb3]; exact qc_new _ wd0 fl0 _ _
    clear hv2 eb3
    have hbw : Below w.heap.size w v2 := below_two hbw kv2
    have fvD := fvD.next kv2
    have p0 : v2.cell? ⟨b3, 0, none⟩ = some (.int .i64 wd0) := DP.out.c0
    have p1 : v2.cell? ⟨b3, 1, none⟩ = some (.int .i64 fl0) := DP.out.c1
    have p2 : v2.cell? ⟨b3, 2, none⟩ = some (.slice aD xD.length cD) := DP.out.c2
    obtain ⟨ys, zd, zf, zb, hys, hyes, hno, hsp, him⟩ := joins wd0 fl0 m1 xD
    have HYES : Hid (zb = true → plB wd0 fl0 xD = true ∧ inQ 0 m1 1000000 = true ∧ xD.length < 50 ∧ hasI m1 xD = false ∧ ys = insI xD m1 ∧ zd = wd0 ∧ zf = fl0) := hyes
    have HNO : Hid (zb = false → ys = [] ∧ zd = 0 ∧ zf = 0) := hno
    have HSP : Hid (∀ (w : World) (a : Option Addr) (cap : Nat), ISmp w.heap.size w a xD → xD.length ≤ cap → Calls Try.prog 17 #[.agg #[.int .i64 wd0, .int .i64 fl0, .slice a xD.length cap], .int .i64 m1] w (AnsPT w ys zd zf zb)) := hsp
    have HIM : Hid (∀ (w : World) (a : Option Addr) (cap : Nat), ISmp w.heap.size w a xD → xD.length ≤ cap → Calls Try.prog 16 #[.agg #[.int .i64 wd0, .int .i64 fl0, .slice a xD.length cap], .int .i64 m1] w (AnsPT w ys zd zf zb)) := him
    clear hsp him hyes hno
    go_upto_region 5 with (first
      | (go_at_call 16; refine (HIM.out _ _ _ (iv_smp fvD) HCD.out).mono ?_; rintro e v3 ⟨a5, n5, c5, rfl, fv5, hb3⟩; have hbw : Below w.heap.size w v3 := below_two hbw hb3; clear p0 p1 p2; have DP : Hid (Qc v3 (b3) wd0 fl0 (.slice aD xD.length cD)) := DP.out.next hb3; have p0 : v3.cell? ⟨b3, 0, none⟩ = some (.int .i64 wd0) := DP.out.c0; have p1 : v3.cell? ⟨b3, 1, none⟩ = some (.int .i64 fl0) := DP.out.c1; have p2 : v3.cell? ⟨b3, 2, none⟩ = some (.slice aD xD.length cD) := DP.out.c2; have fvD := fvD.next hb3))
    obtain ⟨v4, hv4⟩ : ∃ x, x = v3.alloc (.cells #[.int .i64 zd, .int .i64 zf, .slice a5 n5 c5] 37) := ⟨_, rfl⟩
    obtain ⟨b5, eb5⟩ : ∃ b, b = v3.heap.size := ⟨_, rfl⟩
    rw [← hv4, ← eb5]
    have yb5 : v3.heap.size ≤ b5 := by omega
    have ub5 : b5 < v4.heap.size := by rw [hv4, eb5]; simp
    have kv4 : Below v3.heap.size v3 v4 := by rw [hv4]; exact new_below _ _
    have DC : Hid (Qc v4 (b5) zd zf (.slice a5 n5 c5)) := by rw [hv4, eb5]; exact qc_new _ zd zf _ _
    clear hv4 eb5
    have hbw : Below w.heap.size w v4 := below_two hbw kv4; clear p0 p1 p2
    have DP : Hid (Qc v4 (b3) wd0 fl0 (.slice aD xD.length cD)) := DP.out.next kv4
    have p0 : v4.cell? ⟨b3, 0, none⟩ = some (.int .i64 wd0) := DP.out.c0
    have p1 : v4.cell? ⟨b3, 1, none⟩ = some (.int .i64 fl0) := DP.out.c1
    have p2 : v4.cell? ⟨b3, 2, none⟩ = some (.slice aD xD.length cD) := DP.out.c2
    have fvD := fvD.next kv4
    have fv5 := fv5.next kv4
    have c0 : v4.cell? ⟨b5, 0, none⟩ = some (.int .i64 zd) := DC.out.c0
    have c1 : v4.cell? ⟨b5, 1, none⟩ = some (.int .i64 zf) := DC.out.c1
    have c2 : v4.cell? ⟨b5, 2, none⟩ = some (.slice a5 n5 c5) := DC.out.c2
    go_upto_region 6 with (first
      | (go_at_call 17; refine (HSP.out _ _ _ (iv_smp fvD) HCD.out).mono ?_; rintro e v5 ⟨a7, n7, c7, rfl, fv7, hb5⟩; have hbw : Below w.heap.size w v5 := below_two hbw hb5; clear p0 p1 p2; have DP : Hid (Qc v5 (b3) wd0 fl0 (.slice aD xD.length cD)) := DP.out.next hb5; have p0 : v5.cell? ⟨b3, 0, none⟩ = some (.int .i64 wd0) := DP.out.c0; have p1 : v5.cell? ⟨b3, 1, none⟩ = some (.int .i64 fl0) := DP.out.c1; have p2 : v5.cell? ⟨b3, 2, none⟩ = some (.slice aD xD.length cD) := DP.out.c2; clear c0 c1 c2; have DC : Hid (Qc v5 (b5) zd zf (.slice a5 n5 c5)) := DC.out.next hb5; have c0 : v5.cell? ⟨b5, 0, none⟩ = some (.int .i64 zd) := DC.out.c0; have c1 : v5.cell? ⟨b5, 1, none⟩ = some (.int .i64 zf) := DC.out.c1; have c2 : v5.cell? ⟨b5, 2, none⟩ = some (.slice a5 n5 c5) := DC.out.c2; have fvD := fvD.next hb5; have fv5 := fv5.next hb5))
    obtain ⟨v6, hv6⟩ : ∃ x, x = v5.alloc (.cells #[.int .i64 zd, .int .i64 zf, .slice a7 n7 c7] 37) := ⟨_, rfl⟩
    obtain ⟨b7, eb7⟩ : ∃ b, b = v5.heap.size := ⟨_, rfl⟩
    rw [← hv6, ← eb7]
    have yb7 : v5.heap.size ≤ b7 := by omega
    have ub7 : b7 < v6.heap.size := by rw [hv6, eb7]; simp
    have kv6 : Below v5.heap.size v5 v6 := by rw [hv6]; exact new_below _ _
    have DS : Hid (Qc v6 (b7) zd zf (.slice a7 n7 c7)) := by rw [hv6, eb7]; exact qc_new _ zd zf _ _
    clear hv6 eb7
    have hbw : Below w.heap.size w v6 := below_two hbw kv6; clear p0 p1 p2
    have DP : Hid (Qc v6 (b3) wd0 fl0 (.slice aD xD.length cD)) := DP.out.next kv6
    have p0 : v6.cell? ⟨b3, 0, none⟩ = some (.int .i64 wd0) := DP.out.c0
    have p1 : v6.cell? ⟨b3, 1, none⟩ = some (.int .i64 fl0) := DP.out.c1
    have p2 : v6.cell? ⟨b3, 2, none⟩ = some (.slice aD xD.length cD) := DP.out.c2; clear c0 c1 c2
    have DC : Hid (Qc v6 (b5) zd zf (.slice a5 n5 c5)) := DC.out.next kv6
    have c0 : v6.cell? ⟨b5, 0, none⟩ = some (.int .i64 zd) := DC.out.c0
    have c1 : v6.cell? ⟨b5, 1, none⟩ = some (.int .i64 zf) := DC.out.c1
    have c2 : v6.cell? ⟨b5, 2, none⟩ = some (.slice a5 n5 c5) := DC.out.c2
    have fvD := fvD.next kv6
    have fv5 := fv5.next kv6
    have fv7 := fv7.next kv6
    have s0 : v6.cell? ⟨b7, 0, none⟩ = some (.int .i64 zd) := DS.out.c0
    have s1 : v6.cell? ⟨b7, 1, none⟩ = some (.int .i64 zf) := DS.out.c1
    have s2 : v6.cell? ⟨b7, 2, none⟩ = some (.slice a7 n7 c7) := DS.out.c2
    go_upto_region 8 with (first
      | (go_at_call 18; refine (likePlace_same fv5 fv7 hys).mono ?_; rintro e v7 ⟨rfl, hb7⟩; have hbw : Below w.heap.size w v7 := below_two hbw hb7; clear p0 p1 p2; have DP : Hid (Qc v7 (b3) wd0 fl0 (.slice aD xD.length cD)) := DP.out.next hb7; have p0 : v7.cell? ⟨b3, 0, none⟩ = some (.int .i64 wd0) := DP.out.c0; have p1 : v7.cell? ⟨b3, 1, none⟩ = some (.int .i64 fl0) := DP.out.c1; have p2 : v7.cell? ⟨b3, 2, none⟩ = some (.slice aD xD.length cD) := DP.out.c2; clear c0 c1 c2; have DC : Hid (Qc v7 (b5) zd zf (.slice a5 n5 c5)) := DC.out.next hb7; have c0 : v7.cell? ⟨b5, 0, none⟩ = some (.int .i64 zd) := DC.out.c0; have c1 : v7.cell? ⟨b5, 1, none⟩ = some (.int .i64 zf) := DC.out.c1; have c2 : v7.cell? ⟨b5, 2, none⟩ = some (.slice a5 n5 c5) := DC.out.c2; have fvD := fvD.next hb7; have fv5 := fv5.next hb7; clear s0 s1 s2))
    go_upto_region 9 with (first
      | (go_at_call 19; refine (drawQuit_any cap0 hs (row.mono hbw) (by have := hbw.size; omega)).mono ?_; rintro e v9 ⟨wq, fq, aQ, nQ, cQ, yQ, iq, gq, rfl, fvQ, leQ, hb9⟩; obtain ⟨eQ, hcQ⟩ := iv_len fvQ; subst eQ; have HCQ : Hid (yQ.length ≤ cQ) := hcQ; clear hcQ; have hbw : Below w.heap.size w v9 := below_two hbw hb9; clear p0 p1 p2; have DP : Hid (Qc v9 (b3) wd0 fl0 (.slice aD xD.length cD)) := DP.out.next hb9; have p0 : v9.cell? ⟨b3, 0, none⟩ = some (.int .i64 wd0) := DP.out.c0; have p1 : v9.cell? ⟨b3, 1, none⟩ = some (.int .i64 fl0) := DP.out.c1; have p2 : v9.cell? ⟨b3, 2, none⟩ = some (.slice aD xD.length cD) := DP.out.c2; clear c0 c1 c2; have DC : Hid (Qc v9 (b5) zd zf (.slice a5 n5 c5)) := DC.out.next hb9; have c0 : v9.cell? ⟨b5, 0, none⟩ = some (.int .i64 zd) := DC.out.c0; have c1 : v9.cell? ⟨b5, 1, none⟩ = some (.int .i64 zf) := DC.out.c1; have c2 : v9.cell? ⟨b5, 2, none⟩ = some (.slice a5 n5 c5) := DC.out.c2; have fvD := fvD.next hb9; have fv5 := fv5.next hb9))
    obtain ⟨v10, hv10⟩ : ∃ x, x = v9.alloc (.cells #[.int .i64 wq, .int .i64 fq, .slice aQ yQ.length cQ] 37) := ⟨_, rfl⟩
    obtain ⟨b9, eb9⟩ : ∃ b, b = v9.heap.size := ⟨_, rfl⟩
    rw [← hv10, ← eb9]
    have yb9 : v9.heap.size ≤ b9 := by omega
    have ub9 : b9 < v10.heap.size := by rw [hv10, eb9]; simp
    have kv10 : Below v9.heap.size v9 v10 := by rw [hv10]; exact new_below _ _
    have DQ : Hid (Qc v10 (b9) wq fq (.slice aQ yQ.length cQ)) := by rw [hv10, eb9]; exact qc_new _ wq fq _ _
    clear hv10 eb9
    have hbw : Below w.heap.size w v10 := below_two hbw kv10; clear p0 p1 p2
    have DP : Hid (Qc v10 (b3) wd0 fl0 (.slice aD xD.length cD)) := DP.out.next kv10
    have p0 : v10.cell? ⟨b3, 0, none⟩ = some (.int .i64 wd0) := DP.out.c0
    have p1 : v10.cell? ⟨b3, 1, none⟩ = some (.int .i64 fl0) := DP.out.c1
    have p2 : v10.cell? ⟨b3, 2, none⟩ = some (.slice aD xD.length cD) := DP.out.c2; clear c0 c1 c2
    have DC : Hid (Qc v10 (b5) zd zf (.slice a5 n5 c5)) := DC.out.next kv10
    have c0 : v10.cell? ⟨b5, 0, none⟩ = some (.int .i64 zd) := DC.out.c0
    have c1 : v10.cell? ⟨b5, 1, none⟩ = some (.int .i64 zf) := DC.out.c1
    have c2 : v10.cell? ⟨b5, 2, none⟩ = some (.slice a5 n5 c5) := DC.out.c2
    have fvD := fvD.next kv10
    have fv5 := fv5.next kv10
    have fvQ := fvQ.next kv10
    have q0 : v10.cell? ⟨b9, 0, none⟩ = some (.int .i64 wq) := DQ.out.c0
    have q1 : v10.cell? ⟨b9, 1, none⟩ = some (.int .i64 fq) := DQ.out.c1
    have q2 : v10.cell? ⟨b9, 2, none⟩ = some (.slice aQ yQ.length cQ) := DQ.out.c2
    obtain ⟨us, ud, uf, ub, hus, gyes, gno, gsp, gim⟩ := quits wq fq iq gq yQ
    have GYES : Hid (ub = true → plB wq fq yQ = true ∧ w10B gq = true ∧ hasI iq yQ = true ∧ us = delI yQ iq ∧ ud = wq ∧ uf = max 0 (fq - gq)) := gyes
    have GSP : Hid (∀ (w : World) (a : Option Addr) (cap : Nat), ISmp w.heap.size w a yQ → yQ.length ≤ cap → Calls Try.prog 21 #[.agg #[.int .i64 wq, .int .i64 fq, .slice a yQ.length cap], .int .i64 iq, .int .i64 gq] w (AnsPT w us ud uf ub)) := gsp
    have GIM : Hid (∀ (w : World) (a : Option Addr) (cap : Nat), ISmp w.heap.size w a yQ → yQ.length ≤ cap → Calls Try.prog 20 #[.agg #[.int .i64 wq, .int .i64 fq, .slice a yQ.length cap], .int .i64 iq, .int .i64 gq] w (AnsPT w us ud uf ub)) := gim
    clear gsp gim gyes gno
    go_upto_region 10 with (first
      | (go_at_call 20; refine (GIM.out _ _ _ (iv_smp fvQ) HCQ.out).mono ?_; rintro e v11 ⟨a12, n12, c12, rfl, fv12, hb11⟩; have hbw : Below w.heap.size w v11 := below_two hbw hb11; clear p0 p1 p2; have DP : Hid (Qc v11 (b3) wd0 fl0 (.slice aD xD.length cD)) := DP.out.next hb11; have p0 : v11.cell? ⟨b3, 0, none⟩ = some (.int .i64 wd0) := DP.out.c0; have p1 : v11.cell? ⟨b3, 1, none⟩ = some (.int .i64 fl0) := DP.out.c1; have p2 : v11.cell? ⟨b3, 2, none⟩ = some (.slice aD xD.length cD) := DP.out.c2; clear c0 c1 c2; have DC : Hid (Qc v11 (b5) zd zf (.slice a5 n5 c5)) := DC.out.next hb11; have c0 : v11.cell? ⟨b5, 0, none⟩ = some (.int .i64 zd) := DC.out.c0; have c1 : v11.cell? ⟨b5, 1, none⟩ = some (.int .i64 zf) := DC.out.c1; have c2 : v11.cell? ⟨b5, 2, none⟩ = some (.slice a5 n5 c5) := DC.out.c2; clear q0 q1 q2; have DQ : Hid (Qc v11 (b9) wq fq (.slice aQ yQ.length cQ)) := DQ.out.next hb11; have q0 : v11.cell? ⟨b9, 0, none⟩ = some (.int .i64 wq) := DQ.out.c0; have q1 : v11.cell? ⟨b9, 1, none⟩ = some (.int .i64 fq) := DQ.out.c1; have q2 : v11.cell? ⟨b9, 2, none⟩ = some (.slice aQ yQ.length cQ) := DQ.out.c2; have fvD := fvD.next hb11; have fv5 := fv5.next hb11; have fvQ := fvQ.next hb11))
    obtain ⟨v12, hv12⟩ : ∃ x, x = v11.alloc (.cells #[.int .i64 ud, .int .i64 uf, .slice a12 n12 c12] 37) := ⟨_, rfl⟩
    obtain ⟨b12, eb12⟩ : ∃ b, b = v11.heap.size := ⟨_, rfl⟩
    rw [← hv12, ← eb12]
    have yb12 : v11.heap.size ≤ b12 := by omega
    have ub12 : b12 < v12.heap.size := by rw [hv12, eb12]; simp
    have kv12 : Below v11.heap.size v11 v12 := by rw [hv12]; exact new_below _ _
    have DR : Hid (Qc v12 (b12) ud uf (.slice a12 n12 c12)) := by rw [hv12, eb12]; exact qc_new _ ud uf _ _
    clear hv12 eb12
    have hbw : Below w.heap.size w v12 := below_two hbw kv12; clear p0 p1 p2
    have DP : Hid (Qc v12 (b3) wd0 fl0 (.slice aD xD.length cD)) := DP.out.next kv12
    have p0 : v12.cell? ⟨b3, 0, none⟩ = some (.int .i64 wd0) := DP.out.c0
    have p1 : v12.cell? ⟨b3, 1, none⟩ = some (.int .i64 fl0) := DP.out.c1
    have p2 : v12.cell? ⟨b3, 2, none⟩ = some (.slice aD xD.length cD) := DP.out.c2; clear c0 c1 c2
    have DC : Hid (Qc v12 (b5) zd zf (.slice a5 n5 c5)) := DC.out.next kv12
    have c0 : v12.cell? ⟨b5, 0, none⟩ = some (.int .i64 zd) := DC.out.c0
    have c1 : v12.cell? ⟨b5, 1, none⟩ = some (.int .i64 zf) := DC.out.c1
    have c2 : v12.cell? ⟨b5, 2, none⟩ = some (.slice a5 n5 c5) := DC.out.c2; clear q0 q1 q2
    have DQ : Hid (Qc v12 (b9) wq fq (.slice aQ yQ.length cQ)) := DQ.out.next kv12
    have q0 : v12.cell? ⟨b9, 0, none⟩ = some (.int .i64 wq) := DQ.out.c0
    have q1 : v12.cell? ⟨b9, 1, none⟩ = some (.int .i64 fq) := DQ.out.c1
    have q2 : v12.cell? ⟨b9, 2, none⟩ = some (.slice aQ yQ.length cQ) := DQ.out.c2
    have fvD := fvD.next kv12
    have fv5 := fv5.next kv12
    have fvQ := fvQ.next kv12
    have fv12 := fv12.next kv12
    have r0 : v12.cell? ⟨b12, 0, none⟩ = some (.int .i64 ud) := DR.out.c0
    have r1 : v12.cell? ⟨b12, 1, none⟩ = some (.int .i64 uf) := DR.out.c1
    have r2 : v12.cell? ⟨b12, 2, none⟩ = some (.slice a12 n12 c12) := DR.out.c2
    go_upto_region 11 with (first
      | (go_at_call 21; refine (GSP.out _ _ _ (iv_smp fvQ) HCQ.out).mono ?_; rintro e v13 ⟨a14, n14, c14, rfl, fv14, hb13⟩; have hbw : Below w.heap.size w v13 := below_two hbw hb13; clear p0 p1 p2; have DP : Hid (Qc v13 (b3) wd0 fl0 (.slice aD xD.length cD)) := DP.out.next hb13; have p0 : v13.cell? ⟨b3, 0, none⟩ = some (.int .i64 wd0) := DP.out.c0; have p1 : v13.cell? ⟨b3, 1, none⟩ = some (.int .i64 fl0) := DP.out.c1; have p2 : v13.cell? ⟨b3, 2, none⟩ = some (.slice aD xD.length cD) := DP.out.c2; clear c0 c1 c2; have DC : Hid (Qc v13 (b5) zd zf (.slice a5 n5 c5)) := DC.out.next hb13; have c0 : v13.cell? ⟨b5, 0, none⟩ = some (.int .i64 zd) := DC.out.c0; have c1 : v13.cell? ⟨b5, 1, none⟩ = some (.int .i64 zf) := DC.out.c1; have c2 : v13.cell? ⟨b5, 2, none⟩ = some (.slice a5 n5 c5) := DC.out.c2; clear q0 q1 q2; have DQ : Hid (Qc v13 (b9) wq fq (.slice aQ yQ.length cQ)) := DQ.out.next hb13; have q0 : v13.cell? ⟨b9, 0, none⟩ = some (.int .i64 wq) := DQ.out.c0; have q1 : v13.cell? ⟨b9, 1, none⟩ = some (.int .i64 fq) := DQ.out.c1; have q2 : v13.cell? ⟨b9, 2, none⟩ = some (.slice aQ yQ.length cQ) := DQ.out.c2; clear r0 r1 r2; have DR : Hid (Qc v13 (b12) ud uf (.slice a12 n12 c12)) := DR.out.next hb13; have r0 : v13.cell? ⟨b12, 0, none⟩ = some (.int .i64 ud) := DR.out.c0; have r1 : v13.cell? ⟨b12, 1, none⟩ = some (.int .i64 uf) := DR.out.c1; have r2 : v13.cell? ⟨b12, 2, none⟩ = some (.slice a12 n12 c12) := DR.out.c2; have fvD := fvD.next hb13; have fv5 := fv5.next hb13; have fvQ := fvQ.next hb13; have fv12 := fv12.next hb13))
    obtain ⟨v14, hv14⟩ : ∃ x, x = v13.alloc (.cells #[.int .i64 ud, .int .i64 uf, .slice a14 n14 c14] 37) := ⟨_, rfl⟩
    obtain ⟨b14, eb14⟩ : ∃ b, b = v13.heap.size := ⟨_, rfl⟩
    rw [← hv14, ← eb14]
    have yb14 : v13.heap.size ≤ b14 := by omega
    have ub14 : b14 < v14.heap.size := by rw [hv14, eb14]; simp
    have kv14 : Below v13.heap.size v13 v14 := by rw [hv14]; exact new_below _ _
    have DT : Hid (Qc v14 (b14) ud uf (.slice a14 n14 c14)) := by rw [hv14, eb14]; exact qc_new _ ud uf _ _
    clear hv14 eb14
    have hbw : Below w.heap.size w v14 := below_two hbw kv14; clear p0 p1 p2
    have DP : Hid (Qc v14 (b3) wd0 fl0 (.slice aD xD.length cD)) := DP.out.next kv14
    have p0 : v14.cell? ⟨b3, 0, none⟩ = some (.int .i64 wd0) := DP.out.c0
    have p1 : v14.cell? ⟨b3, 1, none⟩ = some (.int .i64 fl0) := DP.out.c1
    have p2 : v14.cell? ⟨b3, 2, none⟩ = some (.slice aD xD.length cD) := DP.out.c2; clear c0 c1 c2
    have DC : Hid (Qc v14 (b5) zd zf (.slice a5 n5 c5)) := DC.out.next kv14
    have c0 : v14.cell? ⟨b5, 0, none⟩ = some (.int .i64 zd) := DC.out.c0
    have c1 : v14.cell? ⟨b5, 1, none⟩ = some (.int .i64 zf) := DC.out.c1
    have c2 : v14.cell? ⟨b5, 2, none⟩ = some (.slice a5 n5 c5) := DC.out.c2; clear q0 q1 q2
    have DQ : Hid (Qc v14 (b9) wq fq (.slice aQ yQ.length cQ)) := DQ.out.next kv14
    have q0 : v14.cell? ⟨b9, 0, none⟩ = some (.int .i64 wq) := DQ.out.c0
    have q1 : v14.cell? ⟨b9, 1, none⟩ = some (.int .i64 fq) := DQ.out.c1
    have q2 : v14.cell? ⟨b9, 2, none⟩ = some (.slice aQ yQ.length cQ) := DQ.out.c2; clear r0 r1 r2
    have DR : Hid (Qc v14 (b12) ud uf (.slice a12 n12 c12)) := DR.out.next kv14
    have r0 : v14.cell? ⟨b12, 0, none⟩ = some (.int .i64 ud) := DR.out.c0
    have r1 : v14.cell? ⟨b12, 1, none⟩ = some (.int .i64 uf) := DR.out.c1
    have r2 : v14.cell? ⟨b12, 2, none⟩ = some (.slice a12 n12 c12) := DR.out.c2
    have fvD := fvD.next kv14
    have fv5 := fv5.next kv14
    have fvQ := fvQ.next kv14
    have fv12 := fv12.next kv14
    have fv14 := fv14.next kv14
    have t0 : v14.cell? ⟨b14, 0, none⟩ = some (.int .i64 ud) := DT.out.c0
    have t1 : v14.cell? ⟨b14, 1, none⟩ = some (.int .i64 uf) := DT.out.c1
    have t2 : v14.cell? ⟨b14, 2, none⟩ = some (.slice a14 n14 c14) := DT.out.c2
    go_upto_region 13 with (first
      | (go_at_call 18; refine (likePlace_same fv12 fv14 hus).mono ?_; rintro e v15 ⟨rfl, hb15⟩; have hbw : Below w.heap.size w v15 := below_two hbw hb15; clear p0 p1 p2; have DP : Hid (Qc v15 (b3) wd0 fl0 (.slice aD xD.length cD)) := DP.out.next hb15; have p0 : v15.cell? ⟨b3, 0, none⟩ = some (.int .i64 wd0) := DP.out.c0; have p1 : v15.cell? ⟨b3, 1, none⟩ = some (.int .i64 fl0) := DP.out.c1; have p2 : v15.cell? ⟨b3, 2, none⟩ = some (.slice aD xD.length cD) := DP.out.c2; clear c0 c1 c2; have DC : Hid (Qc v15 (b5) zd zf (.slice a5 n5 c5)) := DC.out.next hb15; have c0 : v15.cell? ⟨b5, 0, none⟩ = some (.int .i64 zd) := DC.out.c0; have c1 : v15.cell? ⟨b5, 1, none⟩ = some (.int .i64 zf) := DC.out.c1; have c2 : v15.cell? ⟨b5, 2, none⟩ = some (.slice a5 n5 c5) := DC.out.c2; clear q0 q1 q2; have DQ : Hid (Qc v15 (b9) wq fq (.slice aQ yQ.length cQ)) := DQ.out.next hb15; have q0 : v15.cell? ⟨b9, 0, none⟩ = some (.int .i64 wq) := DQ.out.c0; have q1 : v15.cell? ⟨b9, 1, none⟩ = some (.int .i64 fq) := DQ.out.c1; have q2 : v15.cell? ⟨b9, 2, none⟩ = some (.slice aQ yQ.length cQ) := DQ.out.c2; clear r0 r1 r2; have DR : Hid (Qc v15 (b12) ud uf (.slice a12 n12 c12)) := DR.out.next hb15; have r0 : v15.cell? ⟨b12, 0, none⟩ = some (.int .i64 ud) := DR.out.c0; have r1 : v15.cell? ⟨b12, 1, none⟩ = some (.int .i64 uf) := DR.out.c1; have r2 : v15.cell? ⟨b12, 2, none⟩ = some (.slice a12 n12 c12) := DR.out.c2; have fvD := fvD.next hb15; have fv5 := fv5.next hb15; have fvQ := fvQ.next hb15; have fv12 := fv12.next hb15; clear t0 t1 t2))
    clear HSP HIM GSP GIM
    cases ub
    · go_upto_region 15 with (fail)
      clear GYES
      cases zb
      · obtain ⟨ey, e1, e2⟩ := HNO.out rfl
        subst ey e1 e2
        clear HYES HNO
        go_wp2_with (first
          | (go_at_call 18; refine (likePlace_same fv5 (show IV _ 0 (.slice none 0 0) [] from .inr ⟨rfl, rfl⟩) (by decide)).mono ?_; rintro e v20 ⟨rfl, hb20⟩; have hbw : Below w.heap.size w v20 := below_two hbw hb20))
        go_ret
        exact ⟨rfl, hbw⟩
      · obtain ⟨hp, hin, h50, hha, ey, e1, e2⟩ := HYES.out rfl
        have e1 := e1.symm
        have e2 := e2.symm
        subst ey e1 e2
        have e5 := iv_len fv5
        obtain ⟨e5, hc5⟩ := e5
        subst e5
        have hpj := join_ok hp hin h50 hha
        have hpx := pl_yes hp
        have hfn := (pl_num hp).2.1
        have hsl := share_less hp hin h50 hha
        obtain ⟨ws, bd, bf, bb, hws, wyes, wno, _, wim⟩ := quits wd0 fl0 m1 0 (insI xD m1)
        obtain rfl : bb = true := by
          cases bb
          · exact absurd ⟨hpj, rfl, ins_has xD m1⟩ (wno rfl).2.2.2
          · rfl
        obtain ⟨_, _, _, we, w1, w2⟩ := wyes rfl
        rw [del_ins hpx.2.2.2 hha] at we
        rw [show max 0 (fl0 - 0) = fl0 by omega] at w2
        have we := we.symm
        have w1 := w1.symm
        have w2 := w2.symm
        subst we w1 w2
        obtain ⟨ts, td, tf, tb, hts, tyes, tno, _, tim⟩ := joins wd0 fl0 m1 (insI xD m1)
        obtain rfl : tb = false := by
          cases tb
          · rfl
          · have k := (tyes rfl).2.2.2.1
            rw [ins_has] at k
            cases k
        obtain ⟨te, t1, t2⟩ := tno rfl
        subst te t1 t2
        have WIM : Hid (∀ (w : World) (a : Option Addr) (cap : Nat), ISmp w.heap.size w a (insI xD m1) → (insI xD m1).length ≤ cap → Calls Try.prog 20 #[.agg #[.int .i64 wd0, .int .i64 fl0, .slice a (insI xD m1).length cap], .int .i64 m1, .int .i64 0] w (AnsPT w xD wd0 fl0 true)) := wim
        have TIM : Hid (∀ (w : World) (a : Option Addr) (cap : Nat), ISmp w.heap.size w a (insI xD m1) → (insI xD m1).length ≤ cap → Calls Try.prog 16 #[.agg #[.int .i64 wd0, .int .i64 fl0, .slice a (insI xD m1).length cap], .int .i64 m1] w (AnsPT w [] 0 0 false)) := tim
        have HC5 : Hid ((insI xD m1).length ≤ c5) := hc5
        have HPJ : Hid (plB wd0 fl0 (insI xD m1) = true) := hpj
        obtain ⟨s1, hs1⟩ : ∃ f, shareAns wd0 fl0 (insI xD m1) = f := ⟨_, rfl⟩
        obtain ⟨s2, hs2⟩ : ∃ f, shareAns wd0 fl0 xD = f := ⟨_, rfl⟩
        rw [hs1, hs2] at hsl
        have SH1 : Hid (∀ (w : World) (a : Option Addr) (cap : Nat), ISmp w.heap.size w a (insI xD m1) → Calls Try.prog 23 #[.agg #[.int .i64 wd0, .int .i64 fl0, .slice a (insI xD m1).length cap]] w fun e w' => e = .returned (.int .i64 s1) ∧ Below w.heap.size w w') := fun w a cap smp => by rw [← hs1]; exact implShare_any cap smp
        have SH2 : Hid (∀ (w : World) (a : Option Addr) (cap : Nat), ISmp w.heap.size w a xD → Calls Try.prog 23 #[.agg #[.int .i64 wd0, .int .i64 fl0, .slice a xD.length cap]] w fun e w' => e = .returned (.int .i64 s2) ∧ Below w.heap.size w w') := fun w a cap smp => by rw [← hs2]; exact implShare_any cap smp
        obtain ⟨jj, hjj⟩ : ∃ j, j = insI xD m1 := ⟨_, rfl⟩
        rw [← hjj] at WIM TIM HC5 HPJ SH1 fv5 c2 DC
        simp only [← hjj]
        clear wim tim wyes wno tyes tno HYES HNO hp hin h50 hha hpj hpx hfn hs1 hs2 hc5 hjj
        go_upto_region 18 with (first
          | (go_at_call 20; refine (WIM.out _ _ _ (iv_smp fv5) HC5.out).mono ?_; rintro e v21 ⟨a16, n16, c16, rfl, fv16, hb21⟩; have hbw : Below w.heap.size w v21 := below_two hbw hb21; clear p0 p1 p2; have DP : Hid (Qc v21 (b3) wd0 fl0 (.slice aD xD.length cD)) := DP.out.next hb21; have p0 : v21.cell? ⟨b3, 0, none⟩ = some (.int .i64 wd0) := DP.out.c0; have p1 : v21.cell? ⟨b3, 1, none⟩ = some (.int .i64 fl0) := DP.out.c1; have p2 : v21.cell? ⟨b3, 2, none⟩ = some (.slice aD xD.length cD) := DP.out.c2; clear c0 c1 c2; have DC : Hid (Qc v21 (b5) wd0 fl0 (.slice a5 jj.length c5)) := DC.out.next hb21; have c0 : v21.cell? ⟨b5, 0, none⟩ = some (.int .i64 wd0) := DC.out.c0; have c1 : v21.cell? ⟨b5, 1, none⟩ = some (.int .i64 fl0) := DC.out.c1; have c2 : v21.cell? ⟨b5, 2, none⟩ = some (.slice a5 jj.length c5) := DC.out.c2; have fvD := fvD.next hb21; have fv5 := fv5.next hb21))
        obtain ⟨v22, hv22⟩ : ∃ x, x = v21.alloc (.cells #[.int .i64 wd0, .int .i64 fl0, .slice a16 n16 c16] 37) := ⟨_, rfl⟩
        obtain ⟨b16, eb16⟩ : ∃ b, b = v21.heap.size := ⟨_, rfl⟩
        rw [← hv22, ← eb16]
        have yb16 : v21.heap.size ≤ b16 := by omega
        have ub16 : b16 < v22.heap.size := by rw [hv22, eb16]; simp
        have kv22 : Below v21.heap.size v21 v22 := by rw [hv22]; exact new_below _ _
        have DB : Hid (Qc v22 (b16) wd0 fl0 (.slice a16 n16 c16)) := by rw [hv22, eb16]; exact qc_new _ wd0 fl0 _ _
        clear hv22 eb16
        have hbw : Below w.heap.size w v22 := below_two hbw kv22; clear p0 p1 p2
        have DP : Hid (Qc v22 (b3) wd0 fl0 (.slice aD xD.length cD)) := DP.out.next kv22
        have p0 : v22.cell? ⟨b3, 0, none⟩ = some (.int .i64 wd0) := DP.out.c0
        have p1 : v22.cell? ⟨b3, 1, none⟩ = some (.int .i64 fl0) := DP.out.c1
        have p2 : v22.cell? ⟨b3, 2, none⟩ = some (.slice aD xD.length cD) := DP.out.c2; clear c0 c1 c2
        have DC : Hid (Qc v22 (b5) wd0 fl0 (.slice a5 jj.length c5)) := DC.out.next kv22
        have c0 : v22.cell? ⟨b5, 0, none⟩ = some (.int .i64 wd0) := DC.out.c0
        have c1 : v22.cell? ⟨b5, 1, none⟩ = some (.int .i64 fl0) := DC.out.c1
        have c2 : v22.cell? ⟨b5, 2, none⟩ = some (.slice a5 jj.length c5) := DC.out.c2
        have fvD := fvD.next kv22
        have fv5 := fv5.next kv22
        have fv16 := fv16.next kv22
        have g0 : v22.cell? ⟨b16, 0, none⟩ = some (.int .i64 wd0) := DB.out.c0
        have g1 : v22.cell? ⟨b16, 1, none⟩ = some (.int .i64 fl0) := DB.out.c1
        have g2 : v22.cell? ⟨b16, 2, none⟩ = some (.slice a16 n16 c16) := DB.out.c2
        go_upto_region 19 with (first
          | (go_at_call 16; refine (TIM.out _ _ _ (iv_smp fv5) HC5.out).mono ?_; rintro e v23 ⟨a18, n18, c18, rfl, fv18, hb23⟩; have hbw : Below w.heap.size w v23 := below_two hbw hb23; clear p0 p1 p2; have DP : Hid (Qc v23 (b3) wd0 fl0 (.slice aD xD.length cD)) := DP.out.next hb23; have p0 : v23.cell? ⟨b3, 0, none⟩ = some (.int .i64 wd0) := DP.out.c0; have p1 : v23.cell? ⟨b3, 1, none⟩ = some (.int .i64 fl0) := DP.out.c1; have p2 : v23.cell? ⟨b3, 2, none⟩ = some (.slice aD xD.length cD) := DP.out.c2; clear c0 c1 c2; have DC : Hid (Qc v23 (b5) wd0 fl0 (.slice a5 jj.length c5)) := DC.out.next hb23; have c0 : v23.cell? ⟨b5, 0, none⟩ = some (.int .i64 wd0) := DC.out.c0; have c1 : v23.cell? ⟨b5, 1, none⟩ = some (.int .i64 fl0) := DC.out.c1; have c2 : v23.cell? ⟨b5, 2, none⟩ = some (.slice a5 jj.length c5) := DC.out.c2; clear g0 g1 g2; have DB : Hid (Qc v23 (b16) wd0 fl0 (.slice a16 n16 c16)) := DB.out.next hb23; have g0 : v23.cell? ⟨b16, 0, none⟩ = some (.int .i64 wd0) := DB.out.c0; have g1 : v23.cell? ⟨b16, 1, none⟩ = some (.int .i64 fl0) := DB.out.c1; have g2 : v23.cell? ⟨b16, 2, none⟩ = some (.slice a16 n16 c16) := DB.out.c2; have fvD := fvD.next hb23; have fv5 := fv5.next hb23; have fv16 := fv16.next hb23))
        obtain ⟨v24, hv24⟩ : ∃ x, x = v23.alloc (.cells #[.int .i64 0, .int .i64 0, .slice a18 n18 c18] 37) := ⟨_, rfl⟩
        obtain ⟨b18, eb18⟩ : ∃ b, b = v23.heap.size := ⟨_, rfl⟩
        rw [← hv24, ← eb18]
        have yb18 : v23.heap.size ≤ b18 := by omega
        have ub18 : b18 < v24.heap.size := by rw [hv24, eb18]; simp
        have kv24 : Below v23.heap.size v23 v24 := by rw [hv24]; exact new_below _ _
        have DH : Hid (Qc v24 (b18) 0 0 (.slice a18 n18 c18)) := by rw [hv24, eb18]; exact qc_new _ 0 0 _ _
        clear hv24 eb18
        have hbw : Below w.heap.size w v24 := below_two hbw kv24; clear p0 p1 p2
        have DP : Hid (Qc v24 (b3) wd0 fl0 (.slice aD xD.length cD)) := DP.out.next kv24
        have p0 : v24.cell? ⟨b3, 0, none⟩ = some (.int .i64 wd0) := DP.out.c0
        have p1 : v24.cell? ⟨b3, 1, none⟩ = some (.int .i64 fl0) := DP.out.c1
        have p2 : v24.cell? ⟨b3, 2, none⟩ = some (.slice aD xD.length cD) := DP.out.c2; clear c0 c1 c2
        have DC : Hid (Qc v24 (b5) wd0 fl0 (.slice a5 jj.length c5)) := DC.out.next kv24
        have c0 : v24.cell? ⟨b5, 0, none⟩ = some (.int .i64 wd0) := DC.out.c0
        have c1 : v24.cell? ⟨b5, 1, none⟩ = some (.int .i64 fl0) := DC.out.c1
        have c2 : v24.cell? ⟨b5, 2, none⟩ = some (.slice a5 jj.length c5) := DC.out.c2; clear g0 g1 g2
        have DB : Hid (Qc v24 (b16) wd0 fl0 (.slice a16 n16 c16)) := DB.out.next kv24
        have g0 : v24.cell? ⟨b16, 0, none⟩ = some (.int .i64 wd0) := DB.out.c0
        have g1 : v24.cell? ⟨b16, 1, none⟩ = some (.int .i64 fl0) := DB.out.c1
        have g2 : v24.cell? ⟨b16, 2, none⟩ = some (.slice a16 n16 c16) := DB.out.c2
        have fvD := fvD.next kv24
        have fv5 := fv5.next kv24
        have fv16 := fv16.next kv24
        have h0 : v24.cell? ⟨b18, 0, none⟩ = some (.int .i64 0) := DH.out.c0
        have h1 : v24.cell? ⟨b18, 1, none⟩ = some (.int .i64 0) := DH.out.c1
        have h2 : v24.cell? ⟨b18, 2, none⟩ = some (.slice a18 n18 c18) := DH.out.c2
        have HS : Hid (∀ w', Below v24.heap.size v24 w' → (fun w' => w'.cell? ⟨b3, 0, none⟩ = some (.int .i64 wd0) ∧ w'.cell? ⟨b3, 1, none⟩ = some (.int .i64 fl0) ∧ w'.cell? ⟨b3, 2, none⟩ = some (.slice aD xD.length cD) ∧ w'.cell? ⟨b5, 0, none⟩ = some (.int .i64 wd0) ∧ w'.cell? ⟨b5, 1, none⟩ = some (.int .i64 fl0) ∧ w'.cell? ⟨b5, 2, none⟩ = some (.slice a5 jj.length c5) ∧ w'.cell? ⟨b16, 0, none⟩ = some (.int .i64 wd0) ∧ w'.cell? ⟨b16, 1, none⟩ = some (.int .i64 fl0) ∧ w'.cell? ⟨b16, 2, none⟩ = some (.slice a16 n16 c16)) w') := fun w' h => ⟨(DP.out.next h).c0, (DP.out.next h).c1, (DP.out.next h).c2, (DC.out.next h).c0, (DC.out.next h).c1, (DC.out.next h).c2, (DB.out.next h).c0, (DB.out.next h).c1, (DB.out.next h).c2⟩
        have hr : Below v24.heap.size v24 v24.drew := (Below.refl _ _).drew
        have hsd : decide (s1 ≤ s2) = true := decide_eq_true hsl
        refine wp_region_held_drew (S := fun w' => w'.cell? ⟨b3, 0, none⟩ = some (.int .i64 wd0) ∧ w'.cell? ⟨b3, 1, none⟩ = some (.int .i64 fl0) ∧ w'.cell? ⟨b3, 2, none⟩ = some (.slice aD xD.length cD) ∧ w'.cell? ⟨b5, 0, none⟩ = some (.int .i64 wd0) ∧ w'.cell? ⟨b5, 1, none⟩ = some (.int .i64 fl0) ∧ w'.cell? ⟨b5, 2, none⟩ = some (.slice a5 jj.length c5) ∧ w'.cell? ⟨b16, 0, none⟩ = some (.int .i64 wd0) ∧ w'.cell? ⟨b16, 1, none⟩ = some (.int .i64 fl0) ∧ w'.cell? ⟨b16, 2, none⟩ = some (.slice a16 n16 c16)) (by kernel_rfl) (HS.out _ hr) (fun hS => ?_)
        refine wpAnyH_take (i := 0) (v := ?_) rfl (by kernel_rfl) (by kernel_rfl) (by kernel_rfl) (fun _ _ _ h => h) (Or.inl ⟨by rfl, ?_⟩) (by assumption) ?_
        rotate_left 1
        · (intro w' hSw; (try dsimp only at hSw); go_simp; try with_reducible rfl)
        try simp only [Act.put, List.setIfInBounds_toArray, List.set_cons_zero, List.set_cons_succ, List.getElem_toArray, List.getElem_cons_succ, List.getElem_cons_zero]
        refine wpAnyH_ready (rs := [1]) (by kernel_rfl) (by simp) (AllReadyH.cons rfl (fun K hK => ?_) AllReadyH.nil)
        go_simp
        (refine (implPlaceOk_is c5 HPJ.out (iv_smp (fv5.next hr))).mono ?_; rintro e u1 ⟨rfl, hbq⟩; have hr := hr.trans (hbq.mono hr.size); have hSq := HS.out _ hr)
        refine hK.out _ _ (by assumption) (fun _ => ?_)
        try simp only [Act.put, List.setIfInBounds_toArray, List.set_cons_zero, List.set_cons_succ, List.getElem_toArray, List.getElem_cons_succ, List.getElem_cons_zero]
        refine wpAnyH_take (i := 2) (v := ?_) rfl (by kernel_rfl) (by kernel_rfl) (by kernel_rfl) (fun _ _ _ h => h) (Or.inl ⟨by rfl, ?_⟩) (by assumption) ?_
        rotate_left 1
        · (intro w' hSw; (try dsimp only at hSw); go_simp; try with_reducible rfl)
        try simp only [Act.put, List.setIfInBounds_toArray, List.set_cons_zero, List.set_cons_succ, List.getElem_toArray, List.getElem_cons_succ, List.getElem_cons_zero]
        refine wpAnyH_take (i := 3) (v := ?_) rfl (by kernel_rfl) (by kernel_rfl) (by kernel_rfl) (fun _ _ _ h => h) (Or.inl ⟨by rfl, ?_⟩) (by assumption) ?_
        rotate_left 1
        · (intro w' hSw; (try dsimp only at hSw); go_simp; try with_reducible rfl)
        try simp only [Act.put, List.setIfInBounds_toArray, List.set_cons_zero, List.set_cons_succ, List.getElem_toArray, List.getElem_cons_succ, List.getElem_cons_zero]
        refine wpAnyH_take (i := 4) (v := ?_) rfl (by kernel_rfl) (by kernel_rfl) (by kernel_rfl) (fun _ _ _ h => h) (Or.inl ⟨by rfl, ?_⟩) (by assumption) ?_
        rotate_left 1
        · (intro w' hSw; (try dsimp only at hSw); go_simp; try with_reducible rfl)
        try simp only [Act.put, List.setIfInBounds_toArray, List.set_cons_zero, List.set_cons_succ, List.getElem_toArray, List.getElem_cons_succ, List.getElem_cons_zero]
        refine wpAnyH_take (i := 5) (v := ?_) rfl (by kernel_rfl) (by kernel_rfl) (by kernel_rfl) (fun _ _ _ h => h) (Or.inl ⟨by rfl, ?_⟩) (by assumption) ?_
        rotate_left 1
        · (intro w' hSw; (try dsimp only at hSw); go_simp; try with_reducible rfl)
        try simp only [Act.put, List.setIfInBounds_toArray, List.set_cons_zero, List.set_cons_succ, List.getElem_toArray, List.getElem_cons_succ, List.getElem_cons_zero]
        refine wpAnyH_take (i := 6) (v := ?_) rfl (by kernel_rfl) (by kernel_rfl) (by kernel_rfl) (fun _ _ _ h => h) (Or.inl ⟨by rfl, ?_⟩) (by assumption) ?_
        rotate_left 1
        · (intro w' hSw; (try dsimp only at hSw); go_simp; try with_reducible rfl)
        try simp only [Act.put, List.setIfInBounds_toArray, List.set_cons_zero, List.set_cons_succ, List.getElem_toArray, List.getElem_cons_succ, List.getElem_cons_zero]
        refine wpAnyH_take (i := 7) (v := ?_) rfl (by kernel_rfl) (by kernel_rfl) (by kernel_rfl) (fun _ _ _ h => h) (Or.inl ⟨by rfl, ?_⟩) (by assumption) ?_
        rotate_left 1
        · (intro w' hSw; (try dsimp only at hSw); go_simp; try with_reducible rfl)
        try simp only [Act.put, List.setIfInBounds_toArray, List.set_cons_zero, List.set_cons_succ, List.getElem_toArray, List.getElem_cons_succ, List.getElem_cons_zero]
        refine wpAnyH_ready (rs := [8]) (by kernel_rfl) (by simp) (AllReadyH.cons rfl (fun K hK => ?_) AllReadyH.nil)
        go_simp
        (refine (likePlace_same (fv16.next hr) (fvD.next hr) (by omega)).mono ?_; rintro e u2 ⟨rfl, hbq⟩; have hr := hr.trans (hbq.mono hr.size); have hSq := HS.out _ hr)
        refine hK.out _ _ (by assumption) (fun _ => ?_)
        try simp only [Act.put, List.setIfInBounds_toArray, List.set_cons_zero, List.set_cons_succ, List.getElem_toArray, List.getElem_cons_succ, List.getElem_cons_zero]
        refine wpAnyH_take (i := 9) (v := ?_) rfl (by kernel_rfl) (by kernel_rfl) (by kernel_rfl) (fun _ _ _ h => h) (Or.inl ⟨by rfl, ?_⟩) (by assumption) ?_
        rotate_left 1
        · (intro w' hSw; (try dsimp only at hSw); go_simp; try with_reducible rfl)
        try simp only [Act.put, List.setIfInBounds_toArray, List.set_cons_zero, List.set_cons_succ, List.getElem_toArray, List.getElem_cons_succ, List.getElem_cons_zero]
        refine wpAnyH_take (i := 10) (v := ?_) rfl (by kernel_rfl) (by kernel_rfl) (by kernel_rfl) (fun _ _ _ h => h) (Or.inl ⟨by rfl, ?_⟩) (by assumption) ?_
        rotate_left 1
        · (intro w' hSw; (try dsimp only at hSw); go_simp; try with_reducible rfl)
        try simp only [Act.put, List.setIfInBounds_toArray, List.set_cons_zero, List.set_cons_succ, List.getElem_toArray, List.getElem_cons_succ, List.getElem_cons_zero]
        refine wpAnyH_take (i := 11) (v := ?_) rfl (by kernel_rfl) (by kernel_rfl) (by kernel_rfl) (fun _ _ _ h => h) (Or.inl ⟨by rfl, ?_⟩) (by assumption) ?_
        rotate_left 1
        · (intro w' hSw; (try dsimp only at hSw); go_simp; try with_reducible rfl)
        try simp only [Act.put, List.setIfInBounds_toArray, List.set_cons_zero, List.set_cons_succ, List.getElem_toArray, List.getElem_cons_succ, List.getElem_cons_zero]
        refine wpAnyH_take (i := 12) (v := ?_) rfl (by kernel_rfl) (by kernel_rfl) (by kernel_rfl) (fun _ _ _ h => h) (Or.inl ⟨by rfl, ?_⟩) (by assumption) ?_
        rotate_left 1
        · (intro w' hSw; (try dsimp only at hSw); go_simp; try with_reducible rfl)
        try simp only [Act.put, List.setIfInBounds_toArray, List.set_cons_zero, List.set_cons_succ, List.getElem_toArray, List.getElem_cons_succ, List.getElem_cons_zero]
        refine wpAnyH_take (i := 13) (v := ?_) rfl (by kernel_rfl) (by kernel_rfl) (by kernel_rfl) (fun _ _ _ h => h) (Or.inl ⟨by rfl, ?_⟩) (by assumption) ?_
        rotate_left 1
        · (intro w' hSw; (try dsimp only at hSw); go_simp; try with_reducible rfl)
        try simp only [Act.put, List.setIfInBounds_toArray, List.set_cons_zero, List.set_cons_succ, List.getElem_toArray, List.getElem_cons_succ, List.getElem_cons_zero]
        refine wpAnyH_take (i := 14) (v := ?_) rfl (by kernel_rfl) (by kernel_rfl) (by kernel_rfl) (fun _ _ _ h => h) (Or.inl ⟨by rfl, ?_⟩) (by assumption) ?_
        rotate_left 1
        · (intro w' hSw; (try dsimp only at hSw); go_simp; try with_reducible rfl)
        try simp only [Act.put, List.setIfInBounds_toArray, List.set_cons_zero, List.set_cons_succ, List.getElem_toArray, List.getElem_cons_succ, List.getElem_cons_zero]
        refine wpAnyH_take (i := 15) (v := ?_) rfl (by kernel_rfl) (by kernel_rfl) (by kernel_rfl) (fun _ _ _ h => h) (Or.inl ⟨by rfl, ?_⟩) (by assumption) ?_
        rotate_left 1
        · (intro w' hSw; (try dsimp only at hSw); go_simp; try with_reducible rfl)
        try simp only [Act.put, List.setIfInBounds_toArray, List.set_cons_zero, List.set_cons_succ, List.getElem_toArray, List.getElem_cons_succ, List.getElem_cons_zero]
        refine wpAnyH_take (i := 17) (v := ?_) rfl (by kernel_rfl) (by kernel_rfl) (by kernel_rfl) (fun _ _ _ h => h) (Or.inl ⟨by rfl, ?_⟩) (by assumption) ?_
        rotate_left 1
        · (intro w' hSw; (try dsimp only at hSw); go_simp; try with_reducible rfl)
        try simp only [Act.put, List.setIfInBounds_toArray, List.set_cons_zero, List.set_cons_succ, List.getElem_toArray, List.getElem_cons_succ, List.getElem_cons_zero]
        refine wpAnyH_ready (rs := [16]) (by kernel_rfl) (by simp) (AllReadyH.cons rfl (fun K hK => ?_) AllReadyH.nil)
        go_simp
        (refine (SH1.out _ _ _ (iv_smp (fv5.next hr))).mono ?_; rintro e u3 ⟨rfl, hbq⟩; have hr := hr.trans (hbq.mono hr.size); have hSq := HS.out _ hr)
        refine hK.out _ _ (by assumption) (fun _ => ?_)
        try simp only [Act.put, List.setIfInBounds_toArray, List.set_cons_zero, List.set_cons_succ, List.getElem_toArray, List.getElem_cons_succ, List.getElem_cons_zero]
        refine wpAnyH_ready (rs := [18]) (by kernel_rfl) (by simp) (AllReadyH.cons rfl (fun K hK => ?_) AllReadyH.nil)
        go_simp
        (refine (SH2.out _ _ _ (iv_smp (fvD.next hr))).mono ?_; rintro e u4 ⟨rfl, hbq⟩; have hr := hr.trans (hbq.mono hr.size); have hSq := HS.out _ hr)
        refine hK.out _ _ (by assumption) (fun _ => ?_)
        try simp only [Act.put, List.setIfInBounds_toArray, List.set_cons_zero, List.set_cons_succ, List.getElem_toArray, List.getElem_cons_succ, List.getElem_cons_zero]
        refine wpAnyH_take (i := 19) (v := ?_) rfl (by kernel_rfl) (by kernel_rfl) (by kernel_rfl) (fun _ _ _ h => h) (Or.inl ⟨by rfl, ?_⟩) (by assumption) ?_
        rotate_left 1
        · (intro w' hSw; (try dsimp only at hSw); go_simp; try with_reducible rfl)
        try simp only [Act.put, List.setIfInBounds_toArray, List.set_cons_zero, List.set_cons_succ, List.getElem_toArray, List.getElem_cons_succ, List.getElem_cons_zero]
        refine wpAnyH_take (i := 20) (v := ?_) rfl (by kernel_rfl) (by kernel_rfl) (by kernel_rfl) (fun _ _ _ h => h) (Or.inl ⟨by rfl, ?_⟩) (by assumption) ?_
        rotate_left 1
        · (intro w' hSw; (try dsimp only at hSw); go_simp; try with_reducible rfl)
        try simp only [Act.put, List.setIfInBounds_toArray, List.set_cons_zero, List.set_cons_succ, List.getElem_toArray, List.getElem_cons_succ, List.getElem_cons_zero]
        refine wpAnyH_take (i := 21) (v := ?_) rfl (by kernel_rfl) (by kernel_rfl) (by kernel_rfl) (fun _ _ _ h => h) (Or.inl ⟨by rfl, ?_⟩) (by assumption) ?_
        rotate_left 1
        · (intro w' hSw; (try dsimp only at hSw); go_simp; try with_reducible rfl)
        try simp only [Act.put, List.setIfInBounds_toArray, List.set_cons_zero, List.set_cons_succ, List.getElem_toArray, List.getElem_cons_succ, List.getElem_cons_zero]
        refine wpAnyH_done (by kernel_rfl) ?_ _
        go_wp2
        go_ret
        exact ⟨rfl, below_two hbw hr⟩
    · obtain ⟨g1, g2, g3, ge, gd, gf⟩ := GYES.out rfl
      have hq := quit_ok g1 g2 g3 (id := iq)
      have hd1 := del_one (pl_yes g1).2.2.2 g3
      have gd := gd.symm
      subst gd
      rw [← ge, ← gf] at hq
      rw [← ge] at hd1
      have e12 := (iv_len fv12).1
      subst e12
      have HQ : Hid (plB wq uf us = true) := hq
      have rl : IntKind.i64.wrap ((yQ.length : Int) - 1) = (us.length : Int) := by rw [IntKind.wrap_i64]; omega
      clear GYES g1 g2 g3 ge gf hq hd1
      go_upto_region 15 with (first
        | (go_at_call 22; refine (implPlaceOk_is c12 HQ.out (iv_smp fv12)).mono ?_; rintro e v16 ⟨rfl, hb16⟩; have hbw : Below w.heap.size w v16 := below_two hbw hb16; clear p0 p1 p2; have DP : Hid (Qc v16 (b3) wd0 fl0 (.slice aD xD.length cD)) := DP.out.next hb16; have p0 : v16.cell? ⟨b3, 0, none⟩ = some (.int .i64 wd0) := DP.out.c0; have p1 : v16.cell? ⟨b3, 1, none⟩ = some (.int .i64 fl0) := DP.out.c1; have p2 : v16.cell? ⟨b3, 2, none⟩ = some (.slice aD xD.length cD) := DP.out.c2; clear c0 c1 c2; have DC : Hid (Qc v16 (b5) zd zf (.slice a5 n5 c5)) := DC.out.next hb16; have c0 : v16.cell? ⟨b5, 0, none⟩ = some (.int .i64 zd) := DC.out.c0; have c1 : v16.cell? ⟨b5, 1, none⟩ = some (.int .i64 zf) := DC.out.c1; have c2 : v16.cell? ⟨b5, 2, none⟩ = some (.slice a5 n5 c5) := DC.out.c2; clear q0 q1 q2; have DQ : Hid (Qc v16 (b9) wq fq (.slice aQ yQ.length cQ)) := DQ.out.next hb16; have q0 : v16.cell? ⟨b9, 0, none⟩ = some (.int .i64 wq) := DQ.out.c0; have q1 : v16.cell? ⟨b9, 1, none⟩ = some (.int .i64 fq) := DQ.out.c1; have q2 : v16.cell? ⟨b9, 2, none⟩ = some (.slice aQ yQ.length cQ) := DQ.out.c2; clear r0 r1 r2; have DR : Hid (Qc v16 (b12) wq uf (.slice a12 us.length c12)) := DR.out.next hb16; have r0 : v16.cell? ⟨b12, 0, none⟩ = some (.int .i64 wq) := DR.out.c0; have r1 : v16.cell? ⟨b12, 1, none⟩ = some (.int .i64 uf) := DR.out.c1; have r2 : v16.cell? ⟨b12, 2, none⟩ = some (.slice a12 us.length c12) := DR.out.c2; have fvD := fvD.next hb16; have fv5 := fv5.next hb16; have fvQ := fvQ.next hb16; have fv12 := fv12.next hb16))
      cases zb
      · obtain ⟨ey, e1, e2⟩ := HNO.out rfl
        subst ey e1 e2
        clear HYES HNO
        go_wp2_with (first
          | (go_at_call 18; refine (likePlace_same fv5 (show IV _ 0 (.slice none 0 0) [] from .inr ⟨rfl, rfl⟩) (by decide)).mono ?_; rintro e v20 ⟨rfl, hb20⟩; have hbw : Below w.heap.size w v20 := below_two hbw hb20))
        go_ret
        exact ⟨rfl, hbw⟩
      · obtain ⟨hp, hin, h50, hha, ey, e1, e2⟩ := HYES.out rfl
        have e1 := e1.symm
        have e2 := e2.symm
        subst ey e1 e2
        have e5 := iv_len fv5
        obtain ⟨e5, hc5⟩ := e5
        subst e5
        have hpj := join_ok hp hin h50 hha
        have hpx := pl_yes hp
        have hfn := (pl_num hp).2.1
        have hsl := share_less hp hin h50 hha
        obtain ⟨ws, bd, bf, bb, hws, wyes, wno, _, wim⟩ := quits wd0 fl0 m1 0 (insI xD m1)
        obtain rfl : bb = true := by
          cases bb
          · exact absurd ⟨hpj, rfl, ins_has xD m1⟩ (wno rfl).2.2.2
          · rfl
        obtain ⟨_, _, _, we, w1, w2⟩ := wyes rfl
        rw [del_ins hpx.2.2.2 hha] at we
        rw [show max 0 (fl0 - 0) = fl0 by omega] at w2
        have we := we.symm
        have w1 := w1.symm
        have w2 := w2.symm
        subst we w1 w2
        obtain ⟨ts, td, tf, tb, hts, tyes, tno, _, tim⟩ := joins wd0 fl0 m1 (insI xD m1)
        obtain rfl : tb = false := by
          cases tb
          · rfl
          · have k := (tyes rfl).2.2.2.1
            rw [ins_has] at k
            cases k
        obtain ⟨te, t1, t2⟩ := tno rfl
        subst te t1 t2
        have WIM : Hid (∀ (w : World) (a : Option Addr) (cap : Nat), ISmp w.heap.size w a (insI xD m1) → (insI xD m1).length ≤ cap → Calls Try.prog 20 #[.agg #[.int .i64 wd0, .int .i64 fl0, .slice a (insI xD m1).length cap], .int .i64 m1, .int .i64 0] w (AnsPT w xD wd0 fl0 true)) := wim
        have TIM : Hid (∀ (w : World) (a : Option Addr) (cap : Nat), ISmp w.heap.size w a (insI xD m1) → (insI xD m1).length ≤ cap → Calls Try.prog 16 #[.agg #[.int .i64 wd0, .int .i64 fl0, .slice a (insI xD m1).length cap], .int .i64 m1] w (AnsPT w [] 0 0 false)) := tim
        have HC5 : Hid ((insI xD m1).length ≤ c5) := hc5
        have HPJ : Hid (plB wd0 fl0 (insI xD m1) = true) := hpj
        obtain ⟨s1, hs1⟩ : ∃ f, shareAns wd0 fl0 (insI xD m1) = f := ⟨_, rfl⟩
        obtain ⟨s2, hs2⟩ : ∃ f, shareAns wd0 fl0 xD = f := ⟨_, rfl⟩
        rw [hs1, hs2] at hsl
        have SH1 : Hid (∀ (w : World) (a : Option Addr) (cap : Nat), ISmp w.heap.size w a (insI xD m1) → Calls Try.prog 23 #[.agg #[.int .i64 wd0, .int .i64 fl0, .slice a (insI xD m1).length cap]] w fun e w' => e = .returned (.int .i64 s1) ∧ Below w.heap.size w w') := fun w a cap smp => by rw [← hs1]; exact implShare_any cap smp
        have SH2 : Hid (∀ (w : World) (a : Option Addr) (cap : Nat), ISmp w.heap.size w a xD → Calls Try.prog 23 #[.agg #[.int .i64 wd0, .int .i64 fl0, .slice a xD.length cap]] w fun e w' => e = .returned (.int .i64 s2) ∧ Below w.heap.size w w') := fun w a cap smp => by rw [← hs2]; exact implShare_any cap smp
        obtain ⟨jj, hjj⟩ : ∃ j, j = insI xD m1 := ⟨_, rfl⟩
        rw [← hjj] at WIM TIM HC5 HPJ SH1 fv5 c2 DC
        simp only [← hjj]
        clear wim tim wyes wno tyes tno HYES HNO hp hin h50 hha hpj hpx hfn hs1 hs2 hc5 hjj
        go_upto_region 18 with (first
          | (go_at_call 20; refine (WIM.out _ _ _ (iv_smp fv5) HC5.out).mono ?_; rintro e v21 ⟨a16, n16, c16, rfl, fv16, hb21⟩; have hbw : Below w.heap.size w v21 := below_two hbw hb21; clear p0 p1 p2; have DP : Hid (Qc v21 (b3) wd0 fl0 (.slice aD xD.length cD)) := DP.out.next hb21; have p0 : v21.cell? ⟨b3, 0, none⟩ = some (.int .i64 wd0) := DP.out.c0; have p1 : v21.cell? ⟨b3, 1, none⟩ = some (.int .i64 fl0) := DP.out.c1; have p2 : v21.cell? ⟨b3, 2, none⟩ = some (.slice aD xD.length cD) := DP.out.c2; clear c0 c1 c2; have DC : Hid (Qc v21 (b5) wd0 fl0 (.slice a5 jj.length c5)) := DC.out.next hb21; have c0 : v21.cell? ⟨b5, 0, none⟩ = some (.int .i64 wd0) := DC.out.c0; have c1 : v21.cell? ⟨b5, 1, none⟩ = some (.int .i64 fl0) := DC.out.c1; have c2 : v21.cell? ⟨b5, 2, none⟩ = some (.slice a5 jj.length c5) := DC.out.c2; have fvD := fvD.next hb21; have fv5 := fv5.next hb21))
        obtain ⟨v22, hv22⟩ : ∃ x, x = v21.alloc (.cells #[.int .i64 wd0, .int .i64 fl0, .slice a16 n16 c16] 37) := ⟨_, rfl⟩
        obtain ⟨b16, eb16⟩ : ∃ b, b = v21.heap.size := ⟨_, rfl⟩
        rw [← hv22, ← eb16]
        have yb16 : v21.heap.size ≤ b16 := by omega
        have ub16 : b16 < v22.heap.size := by rw [hv22, eb16]; simp
        have kv22 : Below v21.heap.size v21 v22 := by rw [hv22]; exact new_below _ _
        have DB : Hid (Qc v22 (b16) wd0 fl0 (.slice a16 n16 c16)) := by rw [hv22, eb16]; exact qc_new _ wd0 fl0 _ _
        clear hv22 eb16
        have hbw : Below w.heap.size w v22 := below_two hbw kv22; clear p0 p1 p2
        have DP : Hid (Qc v22 (b3) wd0 fl0 (.slice aD xD.length cD)) := DP.out.next kv22
        have p0 : v22.cell? ⟨b3, 0, none⟩ = some (.int .i64 wd0) := DP.out.c0
        have p1 : v22.cell? ⟨b3, 1, none⟩ = some (.int .i64 fl0) := DP.out.c1
        have p2 : v22.cell? ⟨b3, 2, none⟩ = some (.slice aD xD.length cD) := DP.out.c2; clear c0 c1 c2
        have DC : Hid (Qc v22 (b5) wd0 fl0 (.slice a5 jj.length c5)) := DC.out.next kv22
        have c0 : v22.cell? ⟨b5, 0, none⟩ = some (.int .i64 wd0) := DC.out.c0
        have c1 : v22.cell? ⟨b5, 1, none⟩ = some (.int .i64 fl0) := DC.out.c1
        have c2 : v22.cell? ⟨b5, 2, none⟩ = some (.slice a5 jj.length c5) := DC.out.c2
        have fvD := fvD.next kv22
        have fv5 := fv5.next kv22
        have fv16 := fv16.next kv22
        have g0 : v22.cell? ⟨b16, 0, none⟩ = some (.int .i64 wd0) := DB.out.c0
        have g1 : v22.cell? ⟨b16, 1, none⟩ = some (.int .i64 fl0) := DB.out.c1
        have g2 : v22.cell? ⟨b16, 2, none⟩ = some (.slice a16 n16 c16) := DB.out.c2
        go_upto_region 19 with (first
          | (go_at_call 16; refine (TIM.out _ _ _ (iv_smp fv5) HC5.out).mono ?_; rintro e v23 ⟨a18, n18, c18, rfl, fv18, hb23⟩; have hbw : Below w.heap.size w v23 := below_two hbw hb23; clear p0 p1 p2; have DP : Hid (Qc v23 (b3) wd0 fl0 (.slice aD xD.length cD)) := DP.out.next hb23; have p0 : v23.cell? ⟨b3, 0, none⟩ = some (.int .i64 wd0) := DP.out.c0; have p1 : v23.cell? ⟨b3, 1, none⟩ = some (.int .i64 fl0) := DP.out.c1; have p2 : v23.cell? ⟨b3, 2, none⟩ = some (.slice aD xD.length cD) := DP.out.c2; clear c0 c1 c2; have DC : Hid (Qc v23 (b5) wd0 fl0 (.slice a5 jj.length c5)) := DC.out.next hb23; have c0 : v23.cell? ⟨b5, 0, none⟩ = some (.int .i64 wd0) := DC.out.c0; have c1 : v23.cell? ⟨b5, 1, none⟩ = some (.int .i64 fl0) := DC.out.c1; have c2 : v23.cell? ⟨b5, 2, none⟩ = some (.slice a5 jj.length c5) := DC.out.c2; clear g0 g1 g2; have DB : Hid (Qc v23 (b16) wd0 fl0 (.slice a16 n16 c16)) := DB.out.next hb23; have g0 : v23.cell? ⟨b16, 0, none⟩ = some (.int .i64 wd0) := DB.out.c0; have g1 : v23.cell? ⟨b16, 1, none⟩ = some (.int .i64 fl0) := DB.out.c1; have g2 : v23.cell? ⟨b16, 2, none⟩ = some (.slice a16 n16 c16) := DB.out.c2; have fvD := fvD.next hb23; have fv5 := fv5.next hb23; have fv16 := fv16.next hb23))
        obtain ⟨v24, hv24⟩ : ∃ x, x = v23.alloc (.cells #[.int .i64 0, .int .i64 0, .slice a18 n18 c18] 37) := ⟨_, rfl⟩
        obtain ⟨b18, eb18⟩ : ∃ b, b = v23.heap.size := ⟨_, rfl⟩
        rw [← hv24, ← eb18]
        have yb18 : v23.heap.size ≤ b18 := by omega
        have ub18 : b18 < v24.heap.size := by rw [hv24, eb18]; simp
        have kv24 : Below v23.heap.size v23 v24 := by rw [hv24]; exact new_below _ _
        have DH : Hid (Qc v24 (b18) 0 0 (.slice a18 n18 c18)) := by rw [hv24, eb18]; exact qc_new _ 0 0 _ _
        clear hv24 eb18
        have hbw : Below w.heap.size w v24 := below_two hbw kv24; clear p0 p1 p2
        have DP : Hid (Qc v24 (b3) wd0 fl0 (.slice aD xD.length cD)) := DP.out.next kv24
        have p0 : v24.cell? ⟨b3, 0, none⟩ = some (.int .i64 wd0) := DP.out.c0
        have p1 : v24.cell? ⟨b3, 1, none⟩ = some (.int .i64 fl0) := DP.out.c1
        have p2 : v24.cell? ⟨b3, 2, none⟩ = some (.slice aD xD.length cD) := DP.out.c2; clear c0 c1 c2
        have DC : Hid (Qc v24 (b5) wd0 fl0 (.slice a5 jj.length c5)) := DC.out.next kv24
        have c0 : v24.cell? ⟨b5, 0, none⟩ = some (.int .i64 wd0) := DC.out.c0
        have c1 : v24.cell? ⟨b5, 1, none⟩ = some (.int .i64 fl0) := DC.out.c1
        have c2 : v24.cell? ⟨b5, 2, none⟩ = some (.slice a5 jj.length c5) := DC.out.c2; clear g0 g1 g2
        have DB : Hid (Qc v24 (b16) wd0 fl0 (.slice a16 n16 c16)) := DB.out.next kv24
        have g0 : v24.cell? ⟨b16, 0, none⟩ = some (.int .i64 wd0) := DB.out.c0
        have g1 : v24.cell? ⟨b16, 1, none⟩ = some (.int .i64 fl0) := DB.out.c1
        have g2 : v24.cell? ⟨b16, 2, none⟩ = some (.slice a16 n16 c16) := DB.out.c2
        have fvD := fvD.next kv24
        have fv5 := fv5.next kv24
        have fv16 := fv16.next kv24
        have h0 : v24.cell? ⟨b18, 0, none⟩ = some (.int .i64 0) := DH.out.c0
        have h1 : v24.cell? ⟨b18, 1, none⟩ = some (.int .i64 0) := DH.out.c1
        have h2 : v24.cell? ⟨b18, 2, none⟩ = some (.slice a18 n18 c18) := DH.out.c2
        have HS : Hid (∀ w', Below v24.heap.size v24 w' → (fun w' => w'.cell? ⟨b3, 0, none⟩ = some (.int .i64 wd0) ∧ w'.cell? ⟨b3, 1, none⟩ = some (.int .i64 fl0) ∧ w'.cell? ⟨b3, 2, none⟩ = some (.slice aD xD.length cD) ∧ w'.cell? ⟨b5, 0, none⟩ = some (.int .i64 wd0) ∧ w'.cell? ⟨b5, 1, none⟩ = some (.int .i64 fl0) ∧ w'.cell? ⟨b5, 2, none⟩ = some (.slice a5 jj.length c5) ∧ w'.cell? ⟨b16, 0, none⟩ = some (.int .i64 wd0) ∧ w'.cell? ⟨b16, 1, none⟩ = some (.int .i64 fl0) ∧ w'.cell? ⟨b16, 2, none⟩ = some (.slice a16 n16 c16)) w') := fun w' h => ⟨(DP.out.next h).c0, (DP.out.next h).c1, (DP.out.next h).c2, (DC.out.next h).c0, (DC.out.next h).c1, (DC.out.next h).c2, (DB.out.next h).c0, (DB.out.next h).c1, (DB.out.next h).c2⟩
        have hr : Below v24.heap.size v24 v24.drew := (Below.refl _ _).drew
        have hsd : decide (s1 ≤ s2) = true := decide_eq_true hsl
        refine wp_region_held_drew (S := fun w' => w'.cell? ⟨b3, 0, none⟩ = some (.int .i64 wd0) ∧ w'.cell? ⟨b3, 1, none⟩ = some (.int .i64 fl0) ∧ w'.cell? ⟨b3, 2, none⟩ = some (.slice aD xD.length cD) ∧ w'.cell? ⟨b5, 0, none⟩ = some (.int .i64 wd0) ∧ w'.cell? ⟨b5, 1, none⟩ = some (.int .i64 fl0) ∧ w'.cell? ⟨b5, 2, none⟩ = some (.slice a5 jj.length c5) ∧ w'.cell? ⟨b16, 0, none⟩ = some (.int .i64 wd0) ∧ w'.cell? ⟨b16, 1, none⟩ = some (.int .i64 fl0) ∧ w'.cell? ⟨b16, 2, none⟩ = some (.slice a16 n16 c16)) (by kernel_rfl) (HS.out _ hr) (fun hS => ?_)
        refine wpAnyH_take (i := 0) (v := ?_) rfl (by kernel_rfl) (by kernel_rfl) (by kernel_rfl) (fun _ _ _ h => h) (Or.inl ⟨by rfl, ?_⟩) (by assumption) ?_
        rotate_left 1
        · (intro w' hSw; (try dsimp only at hSw); go_simp; try with_reducible rfl)
        try simp only [Act.put, List.setIfInBounds_toArray, List.set_cons_zero, List.set_cons_succ, List.getElem_toArray, List.getElem_cons_succ, List.getElem_cons_zero]
        refine wpAnyH_ready (rs := [1]) (by kernel_rfl) (by simp) (AllReadyH.cons rfl (fun K hK => ?_) AllReadyH.nil)
        go_simp
        (refine (implPlaceOk_is c5 HPJ.out (iv_smp (fv5.next hr))).mono ?_; rintro e u1 ⟨rfl, hbq⟩; have hr := hr.trans (hbq.mono hr.size); have hSq := HS.out _ hr)
        refine hK.out _ _ (by assumption) (fun _ => ?_)
        try simp only [Act.put, List.setIfInBounds_toArray, List.set_cons_zero, List.set_cons_succ, List.getElem_toArray, List.getElem_cons_succ, List.getElem_cons_zero]
        refine wpAnyH_take (i := 2) (v := ?_) rfl (by kernel_rfl) (by kernel_rfl) (by kernel_rfl) (fun _ _ _ h => h) (Or.inl ⟨by rfl, ?_⟩) (by assumption) ?_
        rotate_left 1
        · (intro w' hSw; (try dsimp only at hSw); go_simp; try with_reducible rfl)
        try simp only [Act.put, List.setIfInBounds_toArray, List.set_cons_zero, List.set_cons_succ, List.getElem_toArray, List.getElem_cons_succ, List.getElem_cons_zero]
        refine wpAnyH_take (i := 3) (v := ?_) rfl (by kernel_rfl) (by kernel_rfl) (by kernel_rfl) (fun _ _ _ h => h) (Or.inl ⟨by rfl, ?_⟩) (by assumption) ?_
        rotate_left 1
        · (intro w' hSw; (try dsimp only at hSw); go_simp; try with_reducible rfl)
        try simp only [Act.put, List.setIfInBounds_toArray, List.set_cons_zero, List.set_cons_succ, List.getElem_toArray, List.getElem_cons_succ, List.getElem_cons_zero]
        refine wpAnyH_take (i := 4) (v := ?_) rfl (by kernel_rfl) (by kernel_rfl) (by kernel_rfl) (fun _ _ _ h => h) (Or.inl ⟨by rfl, ?_⟩) (by assumption) ?_
        rotate_left 1
        · (intro w' hSw; (try dsimp only at hSw); go_simp; try with_reducible rfl)
        try simp only [Act.put, List.setIfInBounds_toArray, List.set_cons_zero, List.set_cons_succ, List.getElem_toArray, List.getElem_cons_succ, List.getElem_cons_zero]
        refine wpAnyH_take (i := 5) (v := ?_) rfl (by kernel_rfl) (by kernel_rfl) (by kernel_rfl) (fun _ _ _ h => h) (Or.inl ⟨by rfl, ?_⟩) (by assumption) ?_
        rotate_left 1
        · (intro w' hSw; (try dsimp only at hSw); go_simp; try with_reducible rfl)
        try simp only [Act.put, List.setIfInBounds_toArray, List.set_cons_zero, List.set_cons_succ, List.getElem_toArray, List.getElem_cons_succ, List.getElem_cons_zero]
        refine wpAnyH_take (i := 6) (v := ?_) rfl (by kernel_rfl) (by kernel_rfl) (by kernel_rfl) (fun _ _ _ h => h) (Or.inl ⟨by rfl, ?_⟩) (by assumption) ?_
        rotate_left 1
        · (intro w' hSw; (try dsimp only at hSw); go_simp; try with_reducible rfl)
        try simp only [Act.put, List.setIfInBounds_toArray, List.set_cons_zero, List.set_cons_succ, List.getElem_toArray, List.getElem_cons_succ, List.getElem_cons_zero]
        refine wpAnyH_take (i := 7) (v := ?_) rfl (by kernel_rfl) (by kernel_rfl) (by kernel_rfl) (fun _ _ _ h => h) (Or.inl ⟨by rfl, ?_⟩) (by assumption) ?_
        rotate_left 1
        · (intro w' hSw; (try dsimp only at hSw); go_simp; try with_reducible rfl)
        try simp only [Act.put, List.setIfInBounds_toArray, List.set_cons_zero, List.set_cons_succ, List.getElem_toArray, List.getElem_cons_succ, List.getElem_cons_zero]
        refine wpAnyH_ready (rs := [8]) (by kernel_rfl) (by simp) (AllReadyH.cons rfl (fun K hK => ?_) AllReadyH.nil)
        go_simp
        (refine (likePlace_same (fv16.next hr) (fvD.next hr) (by omega)).mono ?_; rintro e u2 ⟨rfl, hbq⟩; have hr := hr.trans (hbq.mono hr.size); have hSq := HS.out _ hr)
        refine hK.out _ _ (by assumption) (fun _ => ?_)
        try simp only [Act.put, List.setIfInBounds_toArray, List.set_cons_zero, List.set_cons_succ, List.getElem_toArray, List.getElem_cons_succ, List.getElem_cons_zero]
        refine wpAnyH_take (i := 9) (v := ?_) rfl (by kernel_rfl) (by kernel_rfl) (by kernel_rfl) (fun _ _ _ h => h) (Or.inl ⟨by rfl, ?_⟩) (by assumption) ?_
        rotate_left 1
        · (intro w' hSw; (try dsimp only at hSw); go_simp; try with_reducible rfl)
        try simp only [Act.put, List.setIfInBounds_toArray, List.set_cons_zero, List.set_cons_succ, List.getElem_toArray, List.getElem_cons_succ, List.getElem_cons_zero]
        refine wpAnyH_take (i := 10) (v := ?_) rfl (by kernel_rfl) (by kernel_rfl) (by kernel_rfl) (fun _ _ _ h => h) (Or.inl ⟨by rfl, ?_⟩) (by assumption) ?_
        rotate_left 1
        · (intro w' hSw; (try dsimp only at hSw); go_simp; try with_reducible rfl)
        try simp only [Act.put, List.setIfInBounds_toArray, List.set_cons_zero, List.set_cons_succ, List.getElem_toArray, List.getElem_cons_succ, List.getElem_cons_zero]
        refine wpAnyH_take (i := 11) (v := ?_) rfl (by kernel_rfl) (by kernel_rfl) (by kernel_rfl) (fun _ _ _ h => h) (Or.inl ⟨by rfl, ?_⟩) (by assumption) ?_
        rotate_left 1
        · (intro w' hSw; (try dsimp only at hSw); go_simp; try with_reducible rfl)
        try simp only [Act.put, List.setIfInBounds_toArray, List.set_cons_zero, List.set_cons_succ, List.getElem_toArray, List.getElem_cons_succ, List.getElem_cons_zero]
        refine wpAnyH_take (i := 12) (v := ?_) rfl (by kernel_rfl) (by kernel_rfl) (by kernel_rfl) (fun _ _ _ h => h) (Or.inl ⟨by rfl, ?_⟩) (by assumption) ?_
        rotate_left 1
        · (intro w' hSw; (try dsimp only at hSw); go_simp; try with_reducible rfl)
        try simp only [Act.put, List.setIfInBounds_toArray, List.set_cons_zero, List.set_cons_succ, List.getElem_toArray, List.getElem_cons_succ, List.getElem_cons_zero]
        refine wpAnyH_take (i := 13) (v := ?_) rfl (by kernel_rfl) (by kernel_rfl) (by kernel_rfl) (fun _ _ _ h => h) (Or.inl ⟨by rfl, ?_⟩) (by assumption) ?_
        rotate_left 1
        · (intro w' hSw; (try dsimp only at hSw); go_simp; try with_reducible rfl)
        try simp only [Act.put, List.setIfInBounds_toArray, List.set_cons_zero, List.set_cons_succ, List.getElem_toArray, List.getElem_cons_succ, List.getElem_cons_zero]
        refine wpAnyH_take (i := 14) (v := ?_) rfl (by kernel_rfl) (by kernel_rfl) (by kernel_rfl) (fun _ _ _ h => h) (Or.inl ⟨by rfl, ?_⟩) (by assumption) ?_
        rotate_left 1
        · (intro w' hSw; (try dsimp only at hSw); go_simp; try with_reducible rfl)
        try simp only [Act.put, List.setIfInBounds_toArray, List.set_cons_zero, List.set_cons_succ, List.getElem_toArray, List.getElem_cons_succ, List.getElem_cons_zero]
        refine wpAnyH_take (i := 15) (v := ?_) rfl (by kernel_rfl) (by kernel_rfl) (by kernel_rfl) (fun _ _ _ h => h) (Or.inl ⟨by rfl, ?_⟩) (by assumption) ?_
        rotate_left 1
        · (intro w' hSw; (try dsimp only at hSw); go_simp; try with_reducible rfl)
        try simp only [Act.put, List.setIfInBounds_toArray, List.set_cons_zero, List.set_cons_succ, List.getElem_toArray, List.getElem_cons_succ, List.getElem_cons_zero]
        refine wpAnyH_take (i := 17) (v := ?_) rfl (by kernel_rfl) (by kernel_rfl) (by kernel_rfl) (fun _ _ _ h => h) (Or.inl ⟨by rfl, ?_⟩) (by assumption) ?_
        rotate_left 1
        · (intro w' hSw; (try dsimp only at hSw); go_simp; try with_reducible rfl)
        try simp only [Act.put, List.setIfInBounds_toArray, List.set_cons_zero, List.set_cons_succ, List.getElem_toArray, List.getElem_cons_succ, List.getElem_cons_zero]
        refine wpAnyH_ready (rs := [16]) (by kernel_rfl) (by simp) (AllReadyH.cons rfl (fun K hK => ?_) AllReadyH.nil)
        go_simp
        (refine (SH1.out _ _ _ (iv_smp (fv5.next hr))).mono ?_; rintro e u3 ⟨rfl, hbq⟩; have hr := hr.trans (hbq.mono hr.size); have hSq := HS.out _ hr)
        refine hK.out _ _ (by assumption) (fun _ => ?_)
        try simp only [Act.put, List.setIfInBounds_toArray, List.set_cons_zero, List.set_cons_succ, List.getElem_toArray, List.getElem_cons_succ, List.getElem_cons_zero]
        refine wpAnyH_ready (rs := [18]) (by kernel_rfl) (by simp) (AllReadyH.cons rfl (fun K hK => ?_) AllReadyH.nil)
        go_simp
        (refine (SH2.out _ _ _ (iv_smp (fvD.next hr))).mono ?_; rintro e u4 ⟨rfl, hbq⟩; have hr := hr.trans (hbq.mono hr.size); have hSq := HS.out _ hr)
        refine hK.out _ _ (by assumption) (fun _ => ?_)
        try simp only [Act.put, List.setIfInBounds_toArray, List.set_cons_zero, List.set_cons_succ, List.getElem_toArray, List.getElem_cons_succ, List.getElem_cons_zero]
        refine wpAnyH_take (i := 19) (v := ?_) rfl (by kernel_rfl) (by kernel_rfl) (by kernel_rfl) (fun _ _ _ h => h) (Or.inl ⟨by rfl, ?_⟩) (by assumption) ?_
        rotate_left 1
        · (intro w' hSw; (try dsimp only at hSw); go_simp; try with_reducible rfl)
        try simp only [Act.put, List.setIfInBounds_toArray, List.set_cons_zero, List.set_cons_succ, List.getElem_toArray, List.getElem_cons_succ, List.getElem_cons_zero]
        refine wpAnyH_take (i := 20) (v := ?_) rfl (by kernel_rfl) (by kernel_rfl) (by kernel_rfl) (fun _ _ _ h => h) (Or.inl ⟨by rfl, ?_⟩) (by assumption) ?_
        rotate_left 1
        · (intro w' hSw; (try dsimp only at hSw); go_simp; try with_reducible rfl)
        try simp only [Act.put, List.setIfInBounds_toArray, List.set_cons_zero, List.set_cons_succ, List.getElem_toArray, List.getElem_cons_succ, List.getElem_cons_zero]
        refine wpAnyH_take (i := 21) (v := ?_) rfl (by kernel_rfl) (by kernel_rfl) (by kernel_rfl) (fun _ _ _ h => h) (Or.inl ⟨by rfl, ?_⟩) (by assumption) ?_
        rotate_left 1
        · (intro w' hSw; (try dsimp only at hSw); go_simp; try with_reducible rfl)
        try simp only [Act.put, List.setIfInBounds_toArray, List.set_cons_zero, List.set_cons_succ, List.getElem_toArray, List.getElem_cons_succ, List.getElem_cons_zero]
        refine wpAnyH_done (by kernel_rfl) ?_ _
        go_wp2
        go_ret
        exact ⟨rfl, below_two hbw hr⟩
  · have hbig : (4096 : Int) < (len0 : Int) := by omega
    go_enter Try.func4, Try.ntmps4
    go_wp2
    go_ret
    exact ⟨rfl, Below.refl _ _⟩

/-! ### THE ROW's STEP: WRITTEN OUT: LEAVE IT -/
set_option maxRecDepth 100000 in
theorem lifted (os : Os) (started : os.Started) (H : Type) (enc : TypeId × Value → H) :
    ReturnsInHanded {} Try.checked os 4 .any (Rows.fnMembersSpec.pre6 enc Try.prog Try.f4 Rows.fnMembersRow.domain false) (Rows.fnMembersSpec.post enc Try.prog Try.f4 false true false false) := by
  refine returnsInHanded_of_change (C := Try.checked) own started (by kernel_rfl) Try.func4
    (ChangeSpec.witness6 (enc := enc) (C := Try.checked) false ⟨#[], #[.slice none 0 0], []⟩ 8 (by kernel_rfl) (by kernel_rfl) (by kernel_rfl) (by kernel_rfl)) ?_
  intro W base args ds gs before hval0 hW hcnd _
  have hval : ∀ (j : Nat) t v, Try.f4.params[j]? = some t → args[j]? = some v → Value.okWide Try.prog W .any base t v := hval0
  have hW' := hW
  obtain ⟨p, q, hA0, hV, rfl, hfz, hnd⟩ := hW
  have hA : DataW.TrodAll enc Try.prog W 0 (fun _ => true) true Try.f4.params.toList args.toList ds p := hA0
  rw [Try.params4] at hA hval
  obtain ⟨v0, vs0, d0, ds0, p0, q0, hargs, rfl, rfl, h0, r0⟩ := trodAll_cons hA
  obtain ⟨rfl, rfl, rfl⟩ := trodAll_nil r0
  obtain rfl : args = #[v0] := by cases args; simp_all
  obtain ⟨rfl, rfl⟩ := trodVars_none hV
  obtain ⟨a0, len0, cap0, rfl⟩ := okWide_slice Try.underlying22 (hval 0 22 v0 rfl rfl)
  have k0 := h0
  have lt0 : ∀ x ∈ p0, x.block < W.heap.size := by obtain ⟨m, hm⟩ := k0; exact DataW.trod_lt m _ _ _ hm
  obtain ⟨z0, w0⟩ : ∃ zs, IsRow .u8 W a0 len0 cap0 zs := by
    obtain ⟨fuel, hf⟩ := h0
    rcases open_ints Try.underlying22 Try.underlying5 (by kernel_rfl) hf with ⟨hcs, _⟩ | ⟨x, l, c, zs, hcs, _, hl, hm, hz, _, hcell, hwz⟩
    · simp [Value.cells] at hcs
      obtain ⟨rfl, rfl, rfl⟩ := hcs
      exact ⟨[], .inl ⟨rfl, rfl, rfl, rfl⟩⟩
    · simp [Value.cells] at hcs
      obtain ⟨rfl, rfl, rfl⟩ := hcs
      exact ⟨zs, .inr ⟨_, rfl, hl, hm, by simpa using hz, hcell, hwz⟩⟩
  clear hA0 hval0
  refine (walk a0 len0 cap0 z0 W w0).mono fun e W' ⟨he, bel⟩ => ?_
  subst he
  exact ⟨_, rfl, _, _, _, [], _, [], hW', trodAll_mk1 (shut_bool Try.underlying4 _), (trodAll_cons_mk (Below.trod laidOut (by kernel_rfl) (of_decide_eq_true (by kernel_rfl)) k0 bel lt0) trodAll_mk0), rfl, bel.frame _, fun h => by cases h⟩

theorem over : Rows.fnMembersRow.holds Try.pinned (OpenSpec.ofChange Rows.fnMembersSpec) :=
  OpenClaim.holds_of_wide 4 Try.f4 rfl rfl rfl rfl rfl rfl rfl ⟨rfl, rfl, rfl, rfl, rfl⟩ rfl rfl rfl rfl rfl (by kernel_rfl) Try.func4 (by kernel_rfl)
    (of_decide_eq_true (by kernel_rfl)) (by unfold Func.isWrapper; first | (rw [if_pos (by decide +kernel)]; kernel_rfl) | (rw [if_neg (by decide +kernel)]; exact ⟨rfl, rfl⟩))
    (fun os started H enc _ => lifted os started H enc)

/-- ████ THE STATEMENT ████ -/
theorem proved : Rows.FnMembersSaid := over
#print axioms proved
end Go.Proofs.Ytoeiheccmpjclaf.fnMembers
namespace Go.Proofs.Ytoeiheccmpjclaf
theorem fnMembers_holds : Rows.FnMembersSaid := fnMembers.proved
#print axioms fnMembers_holds
end Go.Proofs.Ytoeiheccmpjclaf
