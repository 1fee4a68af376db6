/- Proved: whatever the bytes, the law FnClaimed returns true (at the Places and numbers that the model draws of them impl's Claim, Room, Free and Share answer as spec's do; what is claimed is in flight within the window, and freed it is not; a loss halves the window and nothing else shrinks it), and the bytes read as before; no condition. -/
import Derived.Test.YtoeiheccmpjclafRows
import Derived.WalkKit
import Derived.ProofKit
import Derived.OpenShut
import Derived.ShutString
import Derived.ChangeOld
import Derived.Below
import Derived.Test.YtoeiheccmpjclafDraw13c
import Derived.Test.YtoeiheccmpjclafLikePlc
import Derived.Test.YtoeiheccmpjclafDrawLevel
import Derived.Deep.RegionHeld3
namespace Go.Proofs.Ytoeiheccmpjclaf.fnClaimed
open Go.ChangeShapes Go.WideShapes Go.ChangeAt Go.RowKit
open Go.ChangeMaps (open_string shut_string)
set_option linter.unusedVariables false

theorem own : ownKnob Try.prog.godebug = none := by kernel_rfl
theorem laidOut : laidOutB Try.prog = true := by kernel_rfl

/-- WHAT THE WALK IS TOLD OF A SLICE OF INTEGERS THAT CAME IN: it is nil; or it leads to a row of 'cap' cells, the numbers 'zs' (the first 'len' are its elements, the rest its spare room), each fitting its kind. -/
def IsRow (k : IntKind) (w : World) (a : Option Addr) (len cap : Nat) (zs : List Int) : Prop :=
  (a = none ∧ len = 0 ∧ cap = 0 ∧ zs = []) ∨
  ∃ x, a = some x ∧ len ≤ cap ∧ cap ≤ maxLen ∧ zs.length = cap ∧ (∀ i, i < zs.length → w.cell? (x.add i) = some (.int k (zs.getD i 0))) ∧ ∀ n ∈ zs, (Lit.int k n).wf = true

set_option linter.unusedSimpArgs false
set_option linter.unusedVariables false
set_option maxRecDepth 100000
theorem row_of {w : World} {a : Option Addr} {len cap : Nat} {zs : List Int} (h : IsRow .u8 w a len cap zs) : Row w.heap.size a len w := by
  intro i hi
  rcases h with ⟨rfl, rfl, rfl, rfl⟩ | ⟨x, rfl, hl, hm, hz, hcell, hwz⟩
  · omega
  · obtain ⟨b, off, spot⟩ := x
    have hspot : spot = none := by simpa [Addr.add] using World.cell?_spot (hcell 0 (by omega))
    subst hspot
    have hc := hcell i (by omega)
    have hc' : w.cell? ⟨b, off + i, none⟩ = some (.int .u8 (zs.getD i 0)) := by
      by_cases h0 : i = 0
      · subst h0; simpa [Addr.add] using hc
      · simpa [Addr.add, h0] using hc
    have hlt : i < zs.length := by omega
    have hm : zs.getD i 0 ∈ zs := by simp [List.getD, List.getElem?_eq_getElem hlt]
    obtain ⟨z0, z1⟩ := bounds_u8 (hwz _ hm)
    exact ⟨b, off, zs.getD i 0, rfl, World.block_lt_of_cell? w _ hc', hc', z0, z1⟩

/-! ### STEP 1: THE WALK: the Go text returns true, AND WRITES NOTHING THAT WAS THERE: 'Below w.heap.size w w'' (Derived/Below.lean: '.refl', '.alloc', '.drew', '.setCell' at a new block, '.trans'). Open each 'IsRow' by 'rcases' AHEAD of 'go_enter'; part every test ahead of the walk. -/
set_option maxHeartbeats 16000000 in
theorem walk (a0 : Option Addr) (len0 cap0 : Nat) (z0 : List Int) (w : World) (w0 : IsRow .u8 w a0 len0 cap0 z0) :
    Calls Try.prog 5 #[.slice a0 len0 cap0] w fun e w' => e = .returned (.bool true) ∧ Below w.heap.size w w' := by
  have row := row_of w0
  by_cases hs : len0 ≤ 4096
  · go_enter Try.func5, Try.ntmps5
    go_upto_region 4 with (first
      | (go_at_call 24; refine (drawClaim_any cap0 hs row (Nat.le_refl _)).mono ?_; rintro e v1 ⟨wd0, fl0, aD, nD, cD, xD, m1, rfl, fvD, leD, hbw⟩; obtain ⟨eD, hcD⟩ := iv_len fvD; subst eD; clear hcD)
      | go_in)
    obtain ⟨v2, hv2⟩ : ∃ x, x = v1.alloc (.cells #[.int .i64 wd0, .int .i64 fl0, .slice aD xD.length cD] 37) := ⟨_, rfl⟩
    obtain ⟨b3, eb3⟩ : ∃ b, b = v1.heap.size := ⟨_, rfl⟩
    rw [← hv2, ← eb3]
    have yb3 : v1.heap.size ≤ b3 := by omega
    have ub3 : b3 < v2.heap.size := by rw [hv2, eb3]; simp
    have kv2 : Below v1.heap.size v1 v2 := by rw [hv2]; exact new_below _ _
    have DP : Hid (Qc v2 (b3) wd0 fl0 (.slice aD xD.length cD)) := by rw [hv2, eb3]; exact qc_new _ wd0 fl0 _ _
    clear hv2 eb3
    have hbw : Below w.heap.size w v2 := below_two hbw kv2
    have fvD := fvD.next kv2
    have p0 : v2.cell? ⟨b3, 0, none⟩ = some (.int .i64 wd0) := DP.out.c0
    have p1 : v2.cell? ⟨b3, 1, none⟩ = some (.int .i64 fl0) := DP.out.c1
    have p2 : v2.cell? ⟨b3, 2, none⟩ = some (.slice aD xD.length cD) := DP.out.c2
    obtain ⟨ys, zd, zf, zb, hys, hrm, hyes, hno, hsp, him⟩ := claims2 wd0 fl0 m1 xD
    have HYES : Hid (zb = true → ys = xD ∧ zd = wd0 ∧ zf = fl0 + m1) := hyes
    have HNO : Hid (zb = false → ys = [] ∧ zd = 0 ∧ zf = 0) := hno
    have HRM : Hid (roomB wd0 fl0 m1 xD = zb) := hrm
    have HSP : Hid (∀ (w : World) (a : Option Addr) (cap : Nat), ISmp w.heap.size w a xD → Calls Try.prog 26 #[.agg #[.int .i64 wd0, .int .i64 fl0, .slice a xD.length cap], .int .i64 m1] w (AnsPT w ys zd zf zb)) := hsp
    have HIM : Hid (∀ (w : World) (a : Option Addr) (cap : Nat), ISmp w.heap.size w a xD → Calls Try.prog 25 #[.agg #[.int .i64 wd0, .int .i64 fl0, .slice a xD.length cap], .int .i64 m1] w (AnsPT w ys zd zf zb)) := him
    have HRO : Hid (∀ (w : World) (a : Option Addr) (cap : Nat), ISmp w.heap.size w a xD → Calls Try.prog 27 #[.agg #[.int .i64 wd0, .int .i64 fl0, .slice a xD.length cap], .int .i64 m1] w fun e w' => e = .returned (.bool zb) ∧ Below w.heap.size w w') := fun w a cap smp => implRoom_is cap hrm smp
    clear hsp him hyes hno hrm
    go_upto_region 5 with (first
      | (go_at_call 25; refine (HIM.out _ _ _ (iv_smp fvD)).mono ?_; rintro e v3 ⟨a5, n5, c5, rfl, fv5, hb3⟩; have hbw : Below w.heap.size w v3 := below_two hbw hb3; clear p0 p1 p2; have DP : Hid (Qc v3 (b3) wd0 fl0 (.slice aD xD.length cD)) := DP.out.next hb3; have p0 : v3.cell? ⟨b3, 0, none⟩ = some (.int .i64 wd0) := DP.out.c0; have p1 : v3.cell? ⟨b3, 1, none⟩ = some (.int .i64 fl0) := DP.out.c1; have p2 : v3.cell? ⟨b3, 2, none⟩ = some (.slice aD xD.length cD) := DP.out.c2; have fvD := fvD.next hb3))
    obtain ⟨v4, hv4⟩ : ∃ x, x = v3.alloc (.cells #[.int .i64 zd, .int .i64 zf, .slice a5 n5 c5] 37) := ⟨_, rfl⟩
    obtain ⟨b5, eb5⟩ : ∃ b, b = v3.heap.size := ⟨_, rfl⟩
    rw [← hv4, ← eb5]
    have yb5 : v3.heap.size ≤ b5 := by omega
    have ub5 : b5 < v4.heap.size := by rw [hv4, eb5]; simp
    have kv4 : Below v3.heap.size v3 v4 := by rw [hv4]; exact new_below _ _
    have DC : Hid (Qc v4 (b5) zd zf (.slice a5 n5 c5)) := by rw [hv4, eb5]; exact qc_new _ zd zf _ _
    clear hv4 eb5
    have hbw : Below w.heap.size w v4 := below_two hbw kv4; clear p0 p1 p2
    have DP : Hid (Qc v4 (b3) wd0 fl0 (.slice aD xD.length cD)) := DP.out.next kv4
    have p0 : v4.cell? ⟨b3, 0, none⟩ = some (.int .i64 wd0) := DP.out.c0
    have p1 : v4.cell? ⟨b3, 1, none⟩ = some (.int .i64 fl0) := DP.out.c1
    have p2 : v4.cell? ⟨b3, 2, none⟩ = some (.slice aD xD.length cD) := DP.out.c2
    have fvD := fvD.next kv4
    have fv5 := fv5.next kv4
    have c0 : v4.cell? ⟨b5, 0, none⟩ = some (.int .i64 zd) := DC.out.c0
    have c1 : v4.cell? ⟨b5, 1, none⟩ = some (.int .i64 zf) := DC.out.c1
    have c2 : v4.cell? ⟨b5, 2, none⟩ = some (.slice a5 n5 c5) := DC.out.c2
    go_upto_region 6 with (first
      | (go_at_call 26; refine (HSP.out _ _ _ (iv_smp fvD)).mono ?_; rintro e v5 ⟨a7, n7, c7, rfl, fv7, hb5⟩; have hbw : Below w.heap.size w v5 := below_two hbw hb5; clear p0 p1 p2; have DP : Hid (Qc v5 (b3) wd0 fl0 (.slice aD xD.length cD)) := DP.out.next hb5; have p0 : v5.cell? ⟨b3, 0, none⟩ = some (.int .i64 wd0) := DP.out.c0; have p1 : v5.cell? ⟨b3, 1, none⟩ = some (.int .i64 fl0) := DP.out.c1; have p2 : v5.cell? ⟨b3, 2, none⟩ = some (.slice aD xD.length cD) := DP.out.c2; clear c0 c1 c2; have DC : Hid (Qc v5 (b5) zd zf (.slice a5 n5 c5)) := DC.out.next hb5; have c0 : v5.cell? ⟨b5, 0, none⟩ = some (.int .i64 zd) := DC.out.c0; have c1 : v5.cell? ⟨b5, 1, none⟩ = some (.int .i64 zf) := DC.out.c1; have c2 : v5.cell? ⟨b5, 2, none⟩ = some (.slice a5 n5 c5) := DC.out.c2; have fvD := fvD.next hb5; have fv5 := fv5.next hb5))
    obtain ⟨v6, hv6⟩ : ∃ x, x = v5.alloc (.cells #[.int .i64 zd, .int .i64 zf, .slice a7 n7 c7] 37) := ⟨_, rfl⟩
    obtain ⟨b7, eb7⟩ : ∃ b, b = v5.heap.size := ⟨_, rfl⟩
    rw [← hv6, ← eb7]
    have yb7 : v5.heap.size ≤ b7 := by omega
    have ub7 : b7 < v6.heap.size := by rw [hv6, eb7]; simp
    have kv6 : Below v5.heap.size v5 v6 := by rw [hv6]; exact new_below _ _
    have DS : Hid (Qc v6 (b7) zd zf (.slice a7 n7 c7)) := by rw [hv6, eb7]; exact qc_new _ zd zf _ _
    clear hv6 eb7
    have hbw : Below w.heap.size w v6 := below_two hbw kv6; clear p0 p1 p2
    have DP : Hid (Qc v6 (b3) wd0 fl0 (.slice aD xD.length cD)) := DP.out.next kv6
    have p0 : v6.cell? ⟨b3, 0, none⟩ = some (.int .i64 wd0) := DP.out.c0
    have p1 : v6.cell? ⟨b3, 1, none⟩ = some (.int .i64 fl0) := DP.out.c1
    have p2 : v6.cell? ⟨b3, 2, none⟩ = some (.slice aD xD.length cD) := DP.out.c2; clear c0 c1 c2
    have DC : Hid (Qc v6 (b5) zd zf (.slice a5 n5 c5)) := DC.out.next kv6
    have c0 : v6.cell? ⟨b5, 0, none⟩ = some (.int .i64 zd) := DC.out.c0
    have c1 : v6.cell? ⟨b5, 1, none⟩ = some (.int .i64 zf) := DC.out.c1
    have c2 : v6.cell? ⟨b5, 2, none⟩ = some (.slice a5 n5 c5) := DC.out.c2
    have fvD := fvD.next kv6
    have fv5 := fv5.next kv6
    have fv7 := fv7.next kv6
    have s0 : v6.cell? ⟨b7, 0, none⟩ = some (.int .i64 zd) := DS.out.c0
    have s1 : v6.cell? ⟨b7, 1, none⟩ = some (.int .i64 zf) := DS.out.c1
    have s2 : v6.cell? ⟨b7, 2, none⟩ = some (.slice a7 n7 c7) := DS.out.c2
    go_upto_region 8 with (first
      | (go_at_call 18; refine (likePlace_same fv5 fv7 hys).mono ?_; rintro e v7 ⟨rfl, hb7⟩; have hbw : Below w.heap.size w v7 := below_two hbw hb7; clear p0 p1 p2; have DP : Hid (Qc v7 (b3) wd0 fl0 (.slice aD xD.length cD)) := DP.out.next hb7; have p0 : v7.cell? ⟨b3, 0, none⟩ = some (.int .i64 wd0) := DP.out.c0; have p1 : v7.cell? ⟨b3, 1, none⟩ = some (.int .i64 fl0) := DP.out.c1; have p2 : v7.cell? ⟨b3, 2, none⟩ = some (.slice aD xD.length cD) := DP.out.c2; clear c0 c1 c2; have DC : Hid (Qc v7 (b5) zd zf (.slice a5 n5 c5)) := DC.out.next hb7; have c0 : v7.cell? ⟨b5, 0, none⟩ = some (.int .i64 zd) := DC.out.c0; have c1 : v7.cell? ⟨b5, 1, none⟩ = some (.int .i64 zf) := DC.out.c1; have c2 : v7.cell? ⟨b5, 2, none⟩ = some (.slice a5 n5 c5) := DC.out.c2; have fvD := fvD.next hb7; have fv5 := fv5.next hb7; clear s0 s1 s2)
      | (go_at_call 27; refine (HRO.out _ _ _ (iv_smp fvD)).mono ?_; rintro e v8 ⟨rfl, hb8⟩; have hbw : Below w.heap.size w v8 := below_two hbw hb8; clear p0 p1 p2; have DP : Hid (Qc v8 (b3) wd0 fl0 (.slice aD xD.length cD)) := DP.out.next hb8; have p0 : v8.cell? ⟨b3, 0, none⟩ = some (.int .i64 wd0) := DP.out.c0; have p1 : v8.cell? ⟨b3, 1, none⟩ = some (.int .i64 fl0) := DP.out.c1; have p2 : v8.cell? ⟨b3, 2, none⟩ = some (.slice aD xD.length cD) := DP.out.c2; clear c0 c1 c2; have DC : Hid (Qc v8 (b5) zd zf (.slice a5 n5 c5)) := DC.out.next hb8; have c0 : v8.cell? ⟨b5, 0, none⟩ = some (.int .i64 zd) := DC.out.c0; have c1 : v8.cell? ⟨b5, 1, none⟩ = some (.int .i64 zf) := DC.out.c1; have c2 : v8.cell? ⟨b5, 2, none⟩ = some (.slice a5 n5 c5) := DC.out.c2; have fvD := fvD.next hb8; have fv5 := fv5.next hb8))
    go_upto_region 9 with (first
      | (go_at_call 28; refine (drawFree_any cap0 hs (row.mono hbw) (by have := hbw.size; omega)).mono ?_; rintro e v9 ⟨wq, fq, aQ, nQ, cQ, yQ, kq, lq, rfl, fvQ, leQ, hb9⟩; obtain ⟨eQ, hcQ⟩ := iv_len fvQ; subst eQ; clear hcQ; have hbw : Below w.heap.size w v9 := below_two hbw hb9; clear p0 p1 p2; have DP : Hid (Qc v9 (b3) wd0 fl0 (.slice aD xD.length cD)) := DP.out.next hb9; have p0 : v9.cell? ⟨b3, 0, none⟩ = some (.int .i64 wd0) := DP.out.c0; have p1 : v9.cell? ⟨b3, 1, none⟩ = some (.int .i64 fl0) := DP.out.c1; have p2 : v9.cell? ⟨b3, 2, none⟩ = some (.slice aD xD.length cD) := DP.out.c2; clear c0 c1 c2; have DC : Hid (Qc v9 (b5) zd zf (.slice a5 n5 c5)) := DC.out.next hb9; have c0 : v9.cell? ⟨b5, 0, none⟩ = some (.int .i64 zd) := DC.out.c0; have c1 : v9.cell? ⟨b5, 1, none⟩ = some (.int .i64 zf) := DC.out.c1; have c2 : v9.cell? ⟨b5, 2, none⟩ = some (.slice a5 n5 c5) := DC.out.c2; have fvD := fvD.next hb9; have fv5 := fv5.next hb9))
    obtain ⟨v10, hv10⟩ : ∃ x, x = v9.alloc (.cells #[.int .i64 wq, .int .i64 fq, .slice aQ yQ.length cQ] 37) := ⟨_, rfl⟩
    obtain ⟨b9, eb9⟩ : ∃ b, b = v9.heap.size := ⟨_, rfl⟩
    rw [← hv10, ← eb9]
    have yb9 : v9.heap.size ≤ b9 := by omega
    have ub9 : b9 < v10.heap.size := by rw [hv10, eb9]; simp
    have kv10 : Below v9.heap.size v9 v10 := by rw [hv10]; exact new_below _ _
    have DQ : Hid (Qc v10 (b9) wq fq (.slice aQ yQ.length cQ)) := by rw [hv10, eb9]; exact qc_new _ wq fq _ _
    clear hv10 eb9
    have hbw : Below w.heap.size w v10 := below_two hbw kv10; clear p0 p1 p2
    have DP : Hid (Qc v10 (b3) wd0 fl0 (.slice aD xD.length cD)) := DP.out.next kv10
    have p0 : v10.cell? ⟨b3, 0, none⟩ = some (.int .i64 wd0) := DP.out.c0
    have p1 : v10.cell? ⟨b3, 1, none⟩ = some (.int .i64 fl0) := DP.out.c1
    have p2 : v10.cell? ⟨b3, 2, none⟩ = some (.slice aD xD.length cD) := DP.out.c2; clear c0 c1 c2
    have DC : Hid (Qc v10 (b5) zd zf (.slice a5 n5 c5)) := DC.out.next kv10
    have c0 : v10.cell? ⟨b5, 0, none⟩ = some (.int .i64 zd) := DC.out.c0
    have c1 : v10.cell? ⟨b5, 1, none⟩ = some (.int .i64 zf) := DC.out.c1
    have c2 : v10.cell? ⟨b5, 2, none⟩ = some (.slice a5 n5 c5) := DC.out.c2
    have fvD := fvD.next kv10
    have fv5 := fv5.next kv10
    have fvQ := fvQ.next kv10
    have q0 : v10.cell? ⟨b9, 0, none⟩ = some (.int .i64 wq) := DQ.out.c0
    have q1 : v10.cell? ⟨b9, 1, none⟩ = some (.int .i64 fq) := DQ.out.c1
    have q2 : v10.cell? ⟨b9, 2, none⟩ = some (.slice aQ yQ.length cQ) := DQ.out.c2
    obtain ⟨us, ud, uf, hus, gyes, gno, gsp, gim⟩ := frees2 wq fq kq lq yQ
    obtain ⟨sh, hsh⟩ : ∃ f, shareAns wq fq yQ = f := ⟨_, rfl⟩
    have GYES : Hid (FreeOk wq fq kq yQ → us = yQ ∧ ud = freeW wq kq lq ∧ uf = max 0 (fq - kq)) := gyes
    have GNO : Hid (¬ FreeOk wq fq kq yQ → us = [] ∧ ud = 0 ∧ uf = 0) := gno
    have GSP : Hid (∀ (w : World) (a : Option Addr) (cap : Nat), ISmp w.heap.size w a yQ → Calls Try.prog 30 #[.agg #[.int .i64 wq, .int .i64 fq, .slice a yQ.length cap], .int .i64 kq, .bool lq] w (AnsP w us ud uf)) := gsp
    have GIM : Hid (∀ (w : World) (a : Option Addr) (cap : Nat), ISmp w.heap.size w a yQ → Calls Try.prog 29 #[.agg #[.int .i64 wq, .int .i64 fq, .slice a yQ.length cap], .int .i64 kq, .bool lq] w (AnsP w us ud uf)) := gim
    have SSP : Hid (∀ (w : World) (a : Option Addr) (cap : Nat), ISmp w.heap.size w a yQ → Calls Try.prog 31 #[.agg #[.int .i64 wq, .int .i64 fq, .slice a yQ.length cap]] w fun e w' => e = .returned (.int .i64 sh) ∧ Below w.heap.size w w') := fun w a cap smp => by rw [← hsh]; exact specShare_any cap smp
    have SIM : Hid (∀ (w : World) (a : Option Addr) (cap : Nat), ISmp w.heap.size w a yQ → Calls Try.prog 23 #[.agg #[.int .i64 wq, .int .i64 fq, .slice a yQ.length cap]] w fun e w' => e = .returned (.int .i64 sh) ∧ Below w.heap.size w w') := fun w a cap smp => by rw [← hsh]; exact implShare_any cap smp
    clear gsp gim gyes gno hsh
    go_upto_region 10 with (first
      | (go_at_call 29; refine (GIM.out _ _ _ (iv_smp fvQ)).mono ?_; rintro e v11 ⟨a12, n12, c12, rfl, fv12, hb11⟩; have hbw : Below w.heap.size w v11 := below_two hbw hb11; clear p0 p1 p2; have DP : Hid (Qc v11 (b3) wd0 fl0 (.slice aD xD.length cD)) := DP.out.next hb11; have p0 : v11.cell? ⟨b3, 0, none⟩ = some (.int .i64 wd0) := DP.out.c0; have p1 : v11.cell? ⟨b3, 1, none⟩ = some (.int .i64 fl0) := DP.out.c1; have p2 : v11.cell? ⟨b3, 2, none⟩ = some (.slice aD xD.length cD) := DP.out.c2; clear c0 c1 c2; have DC : Hid (Qc v11 (b5) zd zf (.slice a5 n5 c5)) := DC.out.next hb11; have c0 : v11.cell? ⟨b5, 0, none⟩ = some (.int .i64 zd) := DC.out.c0; have c1 : v11.cell? ⟨b5, 1, none⟩ = some (.int .i64 zf) := DC.out.c1; have c2 : v11.cell? ⟨b5, 2, none⟩ = some (.slice a5 n5 c5) := DC.out.c2; clear q0 q1 q2; have DQ : Hid (Qc v11 (b9) wq fq (.slice aQ yQ.length cQ)) := DQ.out.next hb11; have q0 : v11.cell? ⟨b9, 0, none⟩ = some (.int .i64 wq) := DQ.out.c0; have q1 : v11.cell? ⟨b9, 1, none⟩ = some (.int .i64 fq) := DQ.out.c1; have q2 : v11.cell? ⟨b9, 2, none⟩ = some (.slice aQ yQ.length cQ) := DQ.out.c2; have fvD := fvD.next hb11; have fv5 := fv5.next hb11; have fvQ := fvQ.next hb11))
    obtain ⟨v12, hv12⟩ : ∃ x, x = v11.alloc (.cells #[.int .i64 ud, .int .i64 uf, .slice a12 n12 c12] 37) := ⟨_, rfl⟩
    obtain ⟨b12, eb12⟩ : ∃ b, b = v11.heap.size := ⟨_, rfl⟩
    rw [← hv12, ← eb12]
    have yb12 : v11.heap.size ≤ b12 := by omega
    have ub12 : b12 < v12.heap.size := by rw [hv12, eb12]; simp
    have kv12 : Below v11.heap.size v11 v12 := by rw [hv12]; exact new_below _ _
    have DF : Hid (Qc v12 (b12) ud uf (.slice a12 n12 c12)) := by rw [hv12, eb12]; exact qc_new _ ud uf _ _
    clear hv12 eb12
    have hbw : Below w.heap.size w v12 := below_two hbw kv12; clear p0 p1 p2
    have DP : Hid (Qc v12 (b3) wd0 fl0 (.slice aD xD.length cD)) := DP.out.next kv12
    have p0 : v12.cell? ⟨b3, 0, none⟩ = some (.int .i64 wd0) := DP.out.c0
    have p1 : v12.cell? ⟨b3, 1, none⟩ = some (.int .i64 fl0) := DP.out.c1
    have p2 : v12.cell? ⟨b3, 2, none⟩ = some (.slice aD xD.length cD) := DP.out.c2; clear c0 c1 c2
    have DC : Hid (Qc v12 (b5) zd zf (.slice a5 n5 c5)) := DC.out.next kv12
    have c0 : v12.cell? ⟨b5, 0, none⟩ = some (.int .i64 zd) := DC.out.c0
    have c1 : v12.cell? ⟨b5, 1, none⟩ = some (.int .i64 zf) := DC.out.c1
    have c2 : v12.cell? ⟨b5, 2, none⟩ = some (.slice a5 n5 c5) := DC.out.c2; clear q0 q1 q2
    have DQ : Hid (Qc v12 (b9) wq fq (.slice aQ yQ.length cQ)) := DQ.out.next kv12
    have q0 : v12.cell? ⟨b9, 0, none⟩ = some (.int .i64 wq) := DQ.out.c0
    have q1 : v12.cell? ⟨b9, 1, none⟩ = some (.int .i64 fq) := DQ.out.c1
    have q2 : v12.cell? ⟨b9, 2, none⟩ = some (.slice aQ yQ.length cQ) := DQ.out.c2
    have fvD := fvD.next kv12
    have fv5 := fv5.next kv12
    have fvQ := fvQ.next kv12
    have fv12 := fv12.next kv12
    have f0 : v12.cell? ⟨b12, 0, none⟩ = some (.int .i64 ud) := DF.out.c0
    have f1 : v12.cell? ⟨b12, 1, none⟩ = some (.int .i64 uf) := DF.out.c1
    have f2 : v12.cell? ⟨b12, 2, none⟩ = some (.slice a12 n12 c12) := DF.out.c2
    have HS : Hid (∀ w', Below v12.heap.size v12 w' → (fun w' => w'.cell? ⟨b9, 0, none⟩ = some (.int .i64 wq) ∧ w'.cell? ⟨b9, 1, none⟩ = some (.int .i64 fq) ∧ w'.cell? ⟨b9, 2, none⟩ = some (.slice aQ yQ.length cQ) ∧ w'.cell? ⟨b12, 0, none⟩ = some (.int .i64 ud) ∧ w'.cell? ⟨b12, 1, none⟩ = some (.int .i64 uf) ∧ w'.cell? ⟨b12, 2, none⟩ = some (.slice a12 n12 c12)) w') := fun w' h => ⟨(DQ.out.next h).c0, (DQ.out.next h).c1, (DQ.out.next h).c2, (DF.out.next h).c0, (DF.out.next h).c1, (DF.out.next h).c2⟩
    have hr : Below v12.heap.size v12 v12.drew := (Below.refl _ _).drew
    refine wp_region_held_drew (S := fun w' => w'.cell? ⟨b9, 0, none⟩ = some (.int .i64 wq) ∧ w'.cell? ⟨b9, 1, none⟩ = some (.int .i64 fq) ∧ w'.cell? ⟨b9, 2, none⟩ = some (.slice aQ yQ.length cQ) ∧ w'.cell? ⟨b12, 0, none⟩ = some (.int .i64 ud) ∧ w'.cell? ⟨b12, 1, none⟩ = some (.int .i64 uf) ∧ w'.cell? ⟨b12, 2, none⟩ = some (.slice a12 n12 c12)) (by kernel_rfl) (HS.out _ hr) (fun hS => ?_)
    refine wpAnyH_take (i := 0) (v := ?_) rfl (by kernel_rfl) (by kernel_rfl) (by kernel_rfl) (fun _ _ _ h => h) (Or.inl ⟨by rfl, ?_⟩) (by assumption) ?_
    rotate_left 1
    · (intro w' hSw; (try dsimp only at hSw); go_simp; try with_reducible rfl)
    try simp only [Act.put, List.setIfInBounds_toArray, List.set_cons_zero, List.set_cons_succ, List.getElem_toArray, List.getElem_cons_succ, List.getElem_cons_zero]
    refine wpAnyH_take (i := 1) (v := ?_) rfl (by kernel_rfl) (by kernel_rfl) (by kernel_rfl) (fun _ _ _ h => h) (Or.inl ⟨by rfl, ?_⟩) (by assumption) ?_
    rotate_left 1
    · (intro w' hSw; (try dsimp only at hSw); go_simp; try with_reducible rfl)
    try simp only [Act.put, List.setIfInBounds_toArray, List.set_cons_zero, List.set_cons_succ, List.getElem_toArray, List.getElem_cons_succ, List.getElem_cons_zero]
    refine wpAnyH_take (i := 2) (v := ?_) rfl (by kernel_rfl) (by kernel_rfl) (by kernel_rfl) (fun _ _ _ h => h) (Or.inl ⟨by rfl, ?_⟩) (by assumption) ?_
    rotate_left 1
    · (intro w' hSw; (try dsimp only at hSw); go_simp; try with_reducible rfl)
    try simp only [Act.put, List.setIfInBounds_toArray, List.set_cons_zero, List.set_cons_succ, List.getElem_toArray, List.getElem_cons_succ, List.getElem_cons_zero]
    refine wpAnyH_take (i := 3) (v := ?_) rfl (by kernel_rfl) (by kernel_rfl) (by kernel_rfl) (fun _ _ _ h => h) (Or.inl ⟨by rfl, ?_⟩) (by assumption) ?_
    rotate_left 1
    · (intro w' hSw; (try dsimp only at hSw); go_simp; try with_reducible rfl)
    try simp only [Act.put, List.setIfInBounds_toArray, List.set_cons_zero, List.set_cons_succ, List.getElem_toArray, List.getElem_cons_succ, List.getElem_cons_zero]
    refine wpAnyH_ready (rs := [4]) (by kernel_rfl) (by simp) (AllReadyH.cons rfl (fun K hK => ?_) AllReadyH.nil)
    go_simp
    (refine (GSP.out _ _ _ (iv_smp (fvQ.next hr))).mono ?_; rintro e u1 ⟨aS, nS, cS, rfl, fvS, hbq⟩; have hr := hr.trans (hbq.mono hr.size); have hSq := HS.out _ hr)
    refine hK.out _ _ (by assumption) (fun _ => ?_)
    try simp only [Act.put, List.setIfInBounds_toArray, List.set_cons_zero, List.set_cons_succ, List.getElem_toArray, List.getElem_cons_succ, List.getElem_cons_zero]
    refine wpAnyH_ready (rs := [5]) (by kernel_rfl) (by simp) (AllReadyH.cons rfl (fun K hK => ?_) AllReadyH.nil)
    go_simp
    (refine (likePlace_same (fv12.next hr) fvS hus).mono ?_; rintro e u2 ⟨rfl, hbq⟩; have hr := hr.trans (hbq.mono hr.size); have hSq := HS.out _ hr)
    refine hK.out _ _ (by assumption) (fun _ => ?_)
    try simp only [Act.put, List.setIfInBounds_toArray, List.set_cons_zero, List.set_cons_succ, List.getElem_toArray, List.getElem_cons_succ, List.getElem_cons_zero]
    refine wpAnyH_take (i := 6) (v := ?_) rfl (by kernel_rfl) (by kernel_rfl) (by kernel_rfl) (fun _ _ _ h => h) (Or.inl ⟨by rfl, ?_⟩) (by assumption) ?_
    rotate_left 1
    · (intro w' hSw; (try dsimp only at hSw); go_simp; try with_reducible rfl)
    try simp only [Act.put, List.setIfInBounds_toArray, List.set_cons_zero, List.set_cons_succ, List.getElem_toArray, List.getElem_cons_succ, List.getElem_cons_zero]
    refine wpAnyH_take (i := 7) (v := ?_) rfl (by kernel_rfl) (by kernel_rfl) (by kernel_rfl) (fun _ _ _ h => h) (Or.inl ⟨by rfl, ?_⟩) (by assumption) ?_
    rotate_left 1
    · (intro w' hSw; (try dsimp only at hSw); go_simp; try with_reducible rfl)
    try simp only [Act.put, List.setIfInBounds_toArray, List.set_cons_zero, List.set_cons_succ, List.getElem_toArray, List.getElem_cons_succ, List.getElem_cons_zero]
    refine wpAnyH_take (i := 8) (v := ?_) rfl (by kernel_rfl) (by kernel_rfl) (by kernel_rfl) (fun _ _ _ h => h) (Or.inl ⟨by rfl, ?_⟩) (by assumption) ?_
    rotate_left 1
    · (intro w' hSw; (try dsimp only at hSw); go_simp; try with_reducible rfl)
    try simp only [Act.put, List.setIfInBounds_toArray, List.set_cons_zero, List.set_cons_succ, List.getElem_toArray, List.getElem_cons_succ, List.getElem_cons_zero]
    refine wpAnyH_take (i := 10) (v := ?_) rfl (by kernel_rfl) (by kernel_rfl) (by kernel_rfl) (fun _ _ _ h => h) (Or.inl ⟨by rfl, ?_⟩) (by assumption) ?_
    rotate_left 1
    · (intro w' hSw; (try dsimp only at hSw); go_simp; try with_reducible rfl)
    try simp only [Act.put, List.setIfInBounds_toArray, List.set_cons_zero, List.set_cons_succ, List.getElem_toArray, List.getElem_cons_succ, List.getElem_cons_zero]
    refine wpAnyH_ready (rs := [9]) (by kernel_rfl) (by simp) (AllReadyH.cons rfl (fun K hK => ?_) AllReadyH.nil)
    go_simp
    (refine (SIM.out _ _ _ (iv_smp (fvQ.next hr))).mono ?_; rintro e u3 ⟨rfl, hbq⟩; have hr := hr.trans (hbq.mono hr.size); have hSq := HS.out _ hr)
    refine hK.out _ _ (by assumption) (fun _ => ?_)
    try simp only [Act.put, List.setIfInBounds_toArray, List.set_cons_zero, List.set_cons_succ, List.getElem_toArray, List.getElem_cons_succ, List.getElem_cons_zero]
    refine wpAnyH_ready (rs := [11]) (by kernel_rfl) (by simp) (AllReadyH.cons rfl (fun K hK => ?_) AllReadyH.nil)
    go_simp
    (refine (SSP.out _ _ _ (iv_smp (fvQ.next hr))).mono ?_; rintro e u4 ⟨rfl, hbq⟩; have hr := hr.trans (hbq.mono hr.size); have hSq := HS.out _ hr)
    refine hK.out _ _ (by assumption) (fun _ => ?_)
    try simp only [Act.put, List.setIfInBounds_toArray, List.set_cons_zero, List.set_cons_succ, List.getElem_toArray, List.getElem_cons_succ, List.getElem_cons_zero]
    refine wpAnyH_take (i := 12) (v := ?_) rfl (by kernel_rfl) (by kernel_rfl) (by kernel_rfl) (fun _ _ _ h => h) (Or.inl ⟨by rfl, ?_⟩) (by assumption) ?_
    rotate_left 1
    · (intro w' hSw; (try dsimp only at hSw); go_simp; try with_reducible rfl)
    try simp only [Act.put, List.setIfInBounds_toArray, List.set_cons_zero, List.set_cons_succ, List.getElem_toArray, List.getElem_cons_succ, List.getElem_cons_zero]
    refine wpAnyH_take (i := 13) (v := ?_) rfl (by kernel_rfl) (by kernel_rfl) (by kernel_rfl) (fun _ _ _ h => h) (Or.inl ⟨by rfl, ?_⟩) (by assumption) ?_
    rotate_left 1
    · (intro w' hSw; (try dsimp only at hSw); go_simp; try with_reducible rfl)
    try simp only [Act.put, List.setIfInBounds_toArray, List.set_cons_zero, List.set_cons_succ, List.getElem_toArray, List.getElem_cons_succ, List.getElem_cons_zero]
    refine wpAnyH_done (by kernel_rfl) ?_ _
    have hbw : Below w.heap.size w u4 := below_two hbw hr
    clear p0 p1 p2
    have DP : Hid (Qc u4 (b3) wd0 fl0 (.slice aD xD.length cD)) := DP.out.next hr
    have p0 : u4.cell? ⟨b3, 0, none⟩ = some (.int .i64 wd0) := DP.out.c0
    have p1 : u4.cell? ⟨b3, 1, none⟩ = some (.int .i64 fl0) := DP.out.c1
    have p2 : u4.cell? ⟨b3, 2, none⟩ = some (.slice aD xD.length cD) := DP.out.c2
    clear c0 c1 c2
    have DC : Hid (Qc u4 (b5) zd zf (.slice a5 n5 c5)) := DC.out.next hr
    have c0 : u4.cell? ⟨b5, 0, none⟩ = some (.int .i64 zd) := DC.out.c0
    have c1 : u4.cell? ⟨b5, 1, none⟩ = some (.int .i64 zf) := DC.out.c1
    have c2 : u4.cell? ⟨b5, 2, none⟩ = some (.slice a5 n5 c5) := DC.out.c2
    clear q0 q1 q2
    have DQ : Hid (Qc u4 (b9) wq fq (.slice aQ yQ.length cQ)) := DQ.out.next hr
    have q0 : u4.cell? ⟨b9, 0, none⟩ = some (.int .i64 wq) := DQ.out.c0
    have q1 : u4.cell? ⟨b9, 1, none⟩ = some (.int .i64 fq) := DQ.out.c1
    have q2 : u4.cell? ⟨b9, 2, none⟩ = some (.slice aQ yQ.length cQ) := DQ.out.c2
    clear f0 f1 f2
    have DF : Hid (Qc u4 (b12) ud uf (.slice a12 n12 c12)) := DF.out.next hr
    have f0 : u4.cell? ⟨b12, 0, none⟩ = some (.int .i64 ud) := DF.out.c0
    have f1 : u4.cell? ⟨b12, 1, none⟩ = some (.int .i64 uf) := DF.out.c1
    have f2 : u4.cell? ⟨b12, 2, none⟩ = some (.slice a12 n12 c12) := DF.out.c2
    have fvD := fvD.next hr
    have fv5 := fv5.next hr
    have fvQ := fvQ.next hr
    have fv12 := fv12.next hr
    clear hr hSq HS fvS HSP HIM HRO GSP GIM SSP SIM
    by_cases hF : FreeOk wq fq kq yQ
    · obtain ⟨gy, g1, g2⟩ := GYES.out hF
      obtain ⟨k1, k2, k3, k4, k5⟩ := free_ok (lost := lq) hF
      rw [← g1] at k1 k2 k4 k5
      rw [← g2] at k1 k3
      have gy := gy.symm
      subst gy
      have e12 := (iv_len fv12).1
      subst e12
      have L1 : Hid (plB ud uf yQ = true) := k1
      clear GYES GNO hF k1 g1 g2
      cases lq
      · have k6 := k4 rfl
        clear k4 k5
        go_upto_region 14 with (first
          | (go_at_call 18; refine (likePlace_not _ k2).mono ?_; rintro e v13 ⟨rfl, hb13⟩; have hbw : Below w.heap.size w v13 := below_two hbw hb13; clear p0 p1 p2; have DP : Hid (Qc v13 (b3) wd0 fl0 (.slice aD xD.length cD)) := DP.out.next hb13; have p0 : v13.cell? ⟨b3, 0, none⟩ = some (.int .i64 wd0) := DP.out.c0; have p1 : v13.cell? ⟨b3, 1, none⟩ = some (.int .i64 fl0) := DP.out.c1; have p2 : v13.cell? ⟨b3, 2, none⟩ = some (.slice aD xD.length cD) := DP.out.c2; clear c0 c1 c2; have DC : Hid (Qc v13 (b5) zd zf (.slice a5 n5 c5)) := DC.out.next hb13; have c0 : v13.cell? ⟨b5, 0, none⟩ = some (.int .i64 zd) := DC.out.c0; have c1 : v13.cell? ⟨b5, 1, none⟩ = some (.int .i64 zf) := DC.out.c1; have c2 : v13.cell? ⟨b5, 2, none⟩ = some (.slice a5 n5 c5) := DC.out.c2; clear q0 q1 q2; have DQ : Hid (Qc v13 (b9) wq fq (.slice aQ yQ.length cQ)) := DQ.out.next hb13; have q0 : v13.cell? ⟨b9, 0, none⟩ = some (.int .i64 wq) := DQ.out.c0; have q1 : v13.cell? ⟨b9, 1, none⟩ = some (.int .i64 fq) := DQ.out.c1; have q2 : v13.cell? ⟨b9, 2, none⟩ = some (.slice aQ yQ.length cQ) := DQ.out.c2; clear f0 f1 f2; have DF : Hid (Qc v13 (b12) ud uf (.slice a12 yQ.length c12)) := DF.out.next hb13; have f0 : v13.cell? ⟨b12, 0, none⟩ = some (.int .i64 ud) := DF.out.c0; have f1 : v13.cell? ⟨b12, 1, none⟩ = some (.int .i64 uf) := DF.out.c1; have f2 : v13.cell? ⟨b12, 2, none⟩ = some (.slice a12 yQ.length c12) := DF.out.c2; have fvD := fvD.next hb13; have fv5 := fv5.next hb13; have fvQ := fvQ.next hb13; have fv12 := fv12.next hb13)
          | (go_at_call 22; refine (implPlaceOk_is c12 L1.out (iv_smp fv12)).mono ?_; rintro e v14 ⟨rfl, hb14⟩; have hbw : Below w.heap.size w v14 := below_two hbw hb14; clear p0 p1 p2; have DP : Hid (Qc v14 (b3) wd0 fl0 (.slice aD xD.length cD)) := DP.out.next hb14; have p0 : v14.cell? ⟨b3, 0, none⟩ = some (.int .i64 wd0) := DP.out.c0; have p1 : v14.cell? ⟨b3, 1, none⟩ = some (.int .i64 fl0) := DP.out.c1; have p2 : v14.cell? ⟨b3, 2, none⟩ = some (.slice aD xD.length cD) := DP.out.c2; clear c0 c1 c2; have DC : Hid (Qc v14 (b5) zd zf (.slice a5 n5 c5)) := DC.out.next hb14; have c0 : v14.cell? ⟨b5, 0, none⟩ = some (.int .i64 zd) := DC.out.c0; have c1 : v14.cell? ⟨b5, 1, none⟩ = some (.int .i64 zf) := DC.out.c1; have c2 : v14.cell? ⟨b5, 2, none⟩ = some (.slice a5 n5 c5) := DC.out.c2; clear q0 q1 q2; have DQ : Hid (Qc v14 (b9) wq fq (.slice aQ yQ.length cQ)) := DQ.out.next hb14; have q0 : v14.cell? ⟨b9, 0, none⟩ = some (.int .i64 wq) := DQ.out.c0; have q1 : v14.cell? ⟨b9, 1, none⟩ = some (.int .i64 fq) := DQ.out.c1; have q2 : v14.cell? ⟨b9, 2, none⟩ = some (.slice aQ yQ.length cQ) := DQ.out.c2; clear f0 f1 f2; have DF : Hid (Qc v14 (b12) ud uf (.slice a12 yQ.length c12)) := DF.out.next hb14; have f0 : v14.cell? ⟨b12, 0, none⟩ = some (.int .i64 ud) := DF.out.c0; have f1 : v14.cell? ⟨b12, 1, none⟩ = some (.int .i64 uf) := DF.out.c1; have f2 : v14.cell? ⟨b12, 2, none⟩ = some (.slice a12 yQ.length c12) := DF.out.c2; have fvD := fvD.next hb14; have fv5 := fv5.next hb14; have fvQ := fvQ.next hb14; have fv12 := fv12.next hb14))
        cases zb
        · obtain ⟨ey, e1, e2⟩ := HNO.out rfl
          subst ey e1 e2
          clear HYES HNO HRM
          go_wp2_with (first
            | (go_at_call 18; refine (likePlace_same fv5 (show IV _ 0 (.slice none 0 0) [] from .inr ⟨rfl, rfl⟩) (by decide)).mono ?_; rintro e v20 ⟨rfl, hb20⟩; have hbw : Below w.heap.size w v20 := below_two hbw hb20))
          go_ret
          exact ⟨rfl, hbw⟩
        · obtain ⟨ey, e1, e2⟩ := HYES.out rfl
          have hroom := HRM.out
          have ey := ey.symm
          have e1 := e1.symm
          subst ey e1 e2
          have e5 := (iv_len fv5).1
          subst e5
          obtain ⟨hfr, hb1', hb2', hb3'⟩ := claim_free hroom
          have hnum := pl_num (room_num hroom).1
          have hnm := s10_num (room_num hroom).2.1
          have rfl1 : IntKind.i64.wrap (fl0 + m1) = fl0 + m1 := by rw [IntKind.wrap_i64]; omega
          obtain ⟨ws, bd, bf, hws, wyes, _, _, wim⟩ := frees2 wd0 (fl0 + m1) m1 false xD
          obtain ⟨we, w1, w2⟩ := wyes hfr
          rw [hb1'] at w2
          rw [← w1] at hb3'
          have we := we.symm
          have w2 := w2.symm
          subst we w2
          have WIM : Hid (∀ (w : World) (a : Option Addr) (cap : Nat), ISmp w.heap.size w a xD → Calls Try.prog 29 #[.agg #[.int .i64 wd0, .int .i64 (fl0 + m1), .slice a xD.length cap], .int .i64 m1, .bool false] w (AnsP w xD bd fl0)) := wim
          clear wim wyes w1 HYES HNO HRM hroom hfr hb1' hnum hnm
          go_upto_region 17 with (first
            | (go_at_call 29; refine (WIM.out _ _ _ (iv_smp fv5)).mono ?_; rintro e v21 ⟨a13, n13, c13, rfl, fv13, hb21⟩; have hbw : Below w.heap.size w v21 := below_two hbw hb21; clear p0 p1 p2; have DP : Hid (Qc v21 (b3) wd0 fl0 (.slice aD xD.length cD)) := DP.out.next hb21; have p0 : v21.cell? ⟨b3, 0, none⟩ = some (.int .i64 wd0) := DP.out.c0; have p1 : v21.cell? ⟨b3, 1, none⟩ = some (.int .i64 fl0) := DP.out.c1; have p2 : v21.cell? ⟨b3, 2, none⟩ = some (.slice aD xD.length cD) := DP.out.c2; clear c0 c1 c2; have DC : Hid (Qc v21 (b5) wd0 (fl0 + m1) (.slice a5 xD.length c5)) := DC.out.next hb21; have c0 : v21.cell? ⟨b5, 0, none⟩ = some (.int .i64 wd0) := DC.out.c0; have c1 : v21.cell? ⟨b5, 1, none⟩ = some (.int .i64 (fl0 + m1)) := DC.out.c1; have c2 : v21.cell? ⟨b5, 2, none⟩ = some (.slice a5 xD.length c5) := DC.out.c2; have fvD := fvD.next hb21; have fv5 := fv5.next hb21))
          obtain ⟨v22, hv22⟩ : ∃ x, x = v21.alloc (.cells #[.int .i64 bd, .int .i64 fl0, .slice a13 n13 c13] 37) := ⟨_, rfl⟩
          obtain ⟨b13, eb13⟩ : ∃ b, b = v21.heap.size := ⟨_, rfl⟩
          rw [← hv22, ← eb13]
          have yb13 : v21.heap.size ≤ b13 := by omega
          have ub13 : b13 < v22.heap.size := by rw [hv22, eb13]; simp
          have kv22 : Below v21.heap.size v21 v22 := by rw [hv22]; exact new_below _ _
          have DB : Hid (Qc v22 (b13) bd fl0 (.slice a13 n13 c13)) := by rw [hv22, eb13]; exact qc_new _ bd fl0 _ _
          clear hv22 eb13
          have hbw : Below w.heap.size w v22 := below_two hbw kv22; clear p0 p1 p2
          have DP : Hid (Qc v22 (b3) wd0 fl0 (.slice aD xD.length cD)) := DP.out.next kv22
          have p0 : v22.cell? ⟨b3, 0, none⟩ = some (.int .i64 wd0) := DP.out.c0
          have p1 : v22.cell? ⟨b3, 1, none⟩ = some (.int .i64 fl0) := DP.out.c1
          have p2 : v22.cell? ⟨b3, 2, none⟩ = some (.slice aD xD.length cD) := DP.out.c2; clear c0 c1 c2
          have DC : Hid (Qc v22 (b5) wd0 (fl0 + m1) (.slice a5 xD.length c5)) := DC.out.next kv22
          have c0 : v22.cell? ⟨b5, 0, none⟩ = some (.int .i64 wd0) := DC.out.c0
          have c1 : v22.cell? ⟨b5, 1, none⟩ = some (.int .i64 (fl0 + m1)) := DC.out.c1
          have c2 : v22.cell? ⟨b5, 2, none⟩ = some (.slice a5 xD.length c5) := DC.out.c2
          have fvD := fvD.next kv22
          have fv5 := fv5.next kv22
          have g0 : v22.cell? ⟨b13, 0, none⟩ = some (.int .i64 bd) := DB.out.c0
          have g1 : v22.cell? ⟨b13, 1, none⟩ = some (.int .i64 fl0) := DB.out.c1
          have g2 : v22.cell? ⟨b13, 2, none⟩ = some (.slice a13 n13 c13) := DB.out.c2
          go_wp2
          go_ret
          exact ⟨rfl, hbw⟩
      · have k6 := k5 rfl
        clear k4 k5
        go_upto_region 14 with (first
          | (go_at_call 18; refine (likePlace_not _ k2).mono ?_; rintro e v13 ⟨rfl, hb13⟩; have hbw : Below w.heap.size w v13 := below_two hbw hb13; clear p0 p1 p2; have DP : Hid (Qc v13 (b3) wd0 fl0 (.slice aD xD.length cD)) := DP.out.next hb13; have p0 : v13.cell? ⟨b3, 0, none⟩ = some (.int .i64 wd0) := DP.out.c0; have p1 : v13.cell? ⟨b3, 1, none⟩ = some (.int .i64 fl0) := DP.out.c1; have p2 : v13.cell? ⟨b3, 2, none⟩ = some (.slice aD xD.length cD) := DP.out.c2; clear c0 c1 c2; have DC : Hid (Qc v13 (b5) zd zf (.slice a5 n5 c5)) := DC.out.next hb13; have c0 : v13.cell? ⟨b5, 0, none⟩ = some (.int .i64 zd) := DC.out.c0; have c1 : v13.cell? ⟨b5, 1, none⟩ = some (.int .i64 zf) := DC.out.c1; have c2 : v13.cell? ⟨b5, 2, none⟩ = some (.slice a5 n5 c5) := DC.out.c2; clear q0 q1 q2; have DQ : Hid (Qc v13 (b9) wq fq (.slice aQ yQ.length cQ)) := DQ.out.next hb13; have q0 : v13.cell? ⟨b9, 0, none⟩ = some (.int .i64 wq) := DQ.out.c0; have q1 : v13.cell? ⟨b9, 1, none⟩ = some (.int .i64 fq) := DQ.out.c1; have q2 : v13.cell? ⟨b9, 2, none⟩ = some (.slice aQ yQ.length cQ) := DQ.out.c2; clear f0 f1 f2; have DF : Hid (Qc v13 (b12) ud uf (.slice a12 yQ.length c12)) := DF.out.next hb13; have f0 : v13.cell? ⟨b12, 0, none⟩ = some (.int .i64 ud) := DF.out.c0; have f1 : v13.cell? ⟨b12, 1, none⟩ = some (.int .i64 uf) := DF.out.c1; have f2 : v13.cell? ⟨b12, 2, none⟩ = some (.slice a12 yQ.length c12) := DF.out.c2; have fvD := fvD.next hb13; have fv5 := fv5.next hb13; have fvQ := fvQ.next hb13; have fv12 := fv12.next hb13)
          | (go_at_call 22; refine (implPlaceOk_is c12 L1.out (iv_smp fv12)).mono ?_; rintro e v14 ⟨rfl, hb14⟩; have hbw : Below w.heap.size w v14 := below_two hbw hb14; clear p0 p1 p2; have DP : Hid (Qc v14 (b3) wd0 fl0 (.slice aD xD.length cD)) := DP.out.next hb14; have p0 : v14.cell? ⟨b3, 0, none⟩ = some (.int .i64 wd0) := DP.out.c0; have p1 : v14.cell? ⟨b3, 1, none⟩ = some (.int .i64 fl0) := DP.out.c1; have p2 : v14.cell? ⟨b3, 2, none⟩ = some (.slice aD xD.length cD) := DP.out.c2; clear c0 c1 c2; have DC : Hid (Qc v14 (b5) zd zf (.slice a5 n5 c5)) := DC.out.next hb14; have c0 : v14.cell? ⟨b5, 0, none⟩ = some (.int .i64 zd) := DC.out.c0; have c1 : v14.cell? ⟨b5, 1, none⟩ = some (.int .i64 zf) := DC.out.c1; have c2 : v14.cell? ⟨b5, 2, none⟩ = some (.slice a5 n5 c5) := DC.out.c2; clear q0 q1 q2; have DQ : Hid (Qc v14 (b9) wq fq (.slice aQ yQ.length cQ)) := DQ.out.next hb14; have q0 : v14.cell? ⟨b9, 0, none⟩ = some (.int .i64 wq) := DQ.out.c0; have q1 : v14.cell? ⟨b9, 1, none⟩ = some (.int .i64 fq) := DQ.out.c1; have q2 : v14.cell? ⟨b9, 2, none⟩ = some (.slice aQ yQ.length cQ) := DQ.out.c2; clear f0 f1 f2; have DF : Hid (Qc v14 (b12) ud uf (.slice a12 yQ.length c12)) := DF.out.next hb14; have f0 : v14.cell? ⟨b12, 0, none⟩ = some (.int .i64 ud) := DF.out.c0; have f1 : v14.cell? ⟨b12, 1, none⟩ = some (.int .i64 uf) := DF.out.c1; have f2 : v14.cell? ⟨b12, 2, none⟩ = some (.slice a12 yQ.length c12) := DF.out.c2; have fvD := fvD.next hb14; have fv5 := fv5.next hb14; have fvQ := fvQ.next hb14; have fv12 := fv12.next hb14))
        cases zb
        · obtain ⟨ey, e1, e2⟩ := HNO.out rfl
          subst ey e1 e2
          clear HYES HNO HRM
          go_wp2_with (first
            | (go_at_call 18; refine (likePlace_same fv5 (show IV _ 0 (.slice none 0 0) [] from .inr ⟨rfl, rfl⟩) (by decide)).mono ?_; rintro e v20 ⟨rfl, hb20⟩; have hbw : Below w.heap.size w v20 := below_two hbw hb20))
          go_ret
          exact ⟨rfl, hbw⟩
        · obtain ⟨ey, e1, e2⟩ := HYES.out rfl
          have hroom := HRM.out
          have ey := ey.symm
          have e1 := e1.symm
          subst ey e1 e2
          have e5 := (iv_len fv5).1
          subst e5
          obtain ⟨hfr, hb1', hb2', hb3'⟩ := claim_free hroom
          have hnum := pl_num (room_num hroom).1
          have hnm := s10_num (room_num hroom).2.1
          have rfl1 : IntKind.i64.wrap (fl0 + m1) = fl0 + m1 := by rw [IntKind.wrap_i64]; omega
          obtain ⟨ws, bd, bf, hws, wyes, _, _, wim⟩ := frees2 wd0 (fl0 + m1) m1 false xD
          obtain ⟨we, w1, w2⟩ := wyes hfr
          rw [hb1'] at w2
          rw [← w1] at hb3'
          have we := we.symm
          have w2 := w2.symm
          subst we w2
          have WIM : Hid (∀ (w : World) (a : Option Addr) (cap : Nat), ISmp w.heap.size w a xD → Calls Try.prog 29 #[.agg #[.int .i64 wd0, .int .i64 (fl0 + m1), .slice a xD.length cap], .int .i64 m1, .bool false] w (AnsP w xD bd fl0)) := wim
          clear wim wyes w1 HYES HNO HRM hroom hfr hb1' hnum hnm
          go_upto_region 17 with (first
            | (go_at_call 29; refine (WIM.out _ _ _ (iv_smp fv5)).mono ?_; rintro e v21 ⟨a13, n13, c13, rfl, fv13, hb21⟩; have hbw : Below w.heap.size w v21 := below_two hbw hb21; clear p0 p1 p2; have DP : Hid (Qc v21 (b3) wd0 fl0 (.slice aD xD.length cD)) := DP.out.next hb21; have p0 : v21.cell? ⟨b3, 0, none⟩ = some (.int .i64 wd0) := DP.out.c0; have p1 : v21.cell? ⟨b3, 1, none⟩ = some (.int .i64 fl0) := DP.out.c1; have p2 : v21.cell? ⟨b3, 2, none⟩ = some (.slice aD xD.length cD) := DP.out.c2; clear c0 c1 c2; have DC : Hid (Qc v21 (b5) wd0 (fl0 + m1) (.slice a5 xD.length c5)) := DC.out.next hb21; have c0 : v21.cell? ⟨b5, 0, none⟩ = some (.int .i64 wd0) := DC.out.c0; have c1 : v21.cell? ⟨b5, 1, none⟩ = some (.int .i64 (fl0 + m1)) := DC.out.c1; have c2 : v21.cell? ⟨b5, 2, none⟩ = some (.slice a5 xD.length c5) := DC.out.c2; have fvD := fvD.next hb21; have fv5 := fv5.next hb21))
          obtain ⟨v22, hv22⟩ : ∃ x, x = v21.alloc (.cells #[.int .i64 bd, .int .i64 fl0, .slice a13 n13 c13] 37) := ⟨_, rfl⟩
          obtain ⟨b13, eb13⟩ : ∃ b, b = v21.heap.size := ⟨_, rfl⟩
          rw [← hv22, ← eb13]
          have yb13 : v21.heap.size ≤ b13 := by omega
          have ub13 : b13 < v22.heap.size := by rw [hv22, eb13]; simp
          have kv22 : Below v21.heap.size v21 v22 := by rw [hv22]; exact new_below _ _
          have DB : Hid (Qc v22 (b13) bd fl0 (.slice a13 n13 c13)) := by rw [hv22, eb13]; exact qc_new _ bd fl0 _ _
          clear hv22 eb13
          have hbw : Below w.heap.size w v22 := below_two hbw kv22; clear p0 p1 p2
          have DP : Hid (Qc v22 (b3) wd0 fl0 (.slice aD xD.length cD)) := DP.out.next kv22
          have p0 : v22.cell? ⟨b3, 0, none⟩ = some (.int .i64 wd0) := DP.out.c0
          have p1 : v22.cell? ⟨b3, 1, none⟩ = some (.int .i64 fl0) := DP.out.c1
          have p2 : v22.cell? ⟨b3, 2, none⟩ = some (.slice aD xD.length cD) := DP.out.c2; clear c0 c1 c2
          have DC : Hid (Qc v22 (b5) wd0 (fl0 + m1) (.slice a5 xD.length c5)) := DC.out.next kv22
          have c0 : v22.cell? ⟨b5, 0, none⟩ = some (.int .i64 wd0) := DC.out.c0
          have c1 : v22.cell? ⟨b5, 1, none⟩ = some (.int .i64 (fl0 + m1)) := DC.out.c1
          have c2 : v22.cell? ⟨b5, 2, none⟩ = some (.slice a5 xD.length c5) := DC.out.c2
          have fvD := fvD.next kv22
          have fv5 := fv5.next kv22
          have g0 : v22.cell? ⟨b13, 0, none⟩ = some (.int .i64 bd) := DB.out.c0
          have g1 : v22.cell? ⟨b13, 1, none⟩ = some (.int .i64 fl0) := DB.out.c1
          have g2 : v22.cell? ⟨b13, 2, none⟩ = some (.slice a13 n13 c13) := DB.out.c2
          go_wp2
          go_ret
          exact ⟨rfl, hbw⟩
    · obtain ⟨gy, g1, g2⟩ := GNO.out hF
      subst gy g1 g2
      clear GYES GNO hF
      go_upto_region 14 with (first
        | (go_at_call 18; refine (likePlace_same fv12 (show IV _ 0 (.slice none 0 0) [] from .inr ⟨rfl, rfl⟩) (by decide)).mono ?_; rintro e v13 ⟨rfl, hb13⟩; have hbw : Below w.heap.size w v13 := below_two hbw hb13; clear p0 p1 p2; have DP : Hid (Qc v13 (b3) wd0 fl0 (.slice aD xD.length cD)) := DP.out.next hb13; have p0 : v13.cell? ⟨b3, 0, none⟩ = some (.int .i64 wd0) := DP.out.c0; have p1 : v13.cell? ⟨b3, 1, none⟩ = some (.int .i64 fl0) := DP.out.c1; have p2 : v13.cell? ⟨b3, 2, none⟩ = some (.slice aD xD.length cD) := DP.out.c2; clear c0 c1 c2; have DC : Hid (Qc v13 (b5) zd zf (.slice a5 n5 c5)) := DC.out.next hb13; have c0 : v13.cell? ⟨b5, 0, none⟩ = some (.int .i64 zd) := DC.out.c0; have c1 : v13.cell? ⟨b5, 1, none⟩ = some (.int .i64 zf) := DC.out.c1; have c2 : v13.cell? ⟨b5, 2, none⟩ = some (.slice a5 n5 c5) := DC.out.c2; clear q0 q1 q2; have DQ : Hid (Qc v13 (b9) wq fq (.slice aQ yQ.length cQ)) := DQ.out.next hb13; have q0 : v13.cell? ⟨b9, 0, none⟩ = some (.int .i64 wq) := DQ.out.c0; have q1 : v13.cell? ⟨b9, 1, none⟩ = some (.int .i64 fq) := DQ.out.c1; have q2 : v13.cell? ⟨b9, 2, none⟩ = some (.slice aQ yQ.length cQ) := DQ.out.c2; clear f0 f1 f2; have DF : Hid (Qc v13 (b12) 0 0 (.slice a12 n12 c12)) := DF.out.next hb13; have f0 : v13.cell? ⟨b12, 0, none⟩ = some (.int .i64 0) := DF.out.c0; have f1 : v13.cell? ⟨b12, 1, none⟩ = some (.int .i64 0) := DF.out.c1; have f2 : v13.cell? ⟨b12, 2, none⟩ = some (.slice a12 n12 c12) := DF.out.c2; have fvD := fvD.next hb13; have fv5 := fv5.next hb13; have fvQ := fvQ.next hb13; have fv12 := fv12.next hb13))
      cases zb
      · obtain ⟨ey, e1, e2⟩ := HNO.out rfl
        subst ey e1 e2
        clear HYES HNO HRM
        go_wp2_with (first
          | (go_at_call 18; refine (likePlace_same fv5 (show IV _ 0 (.slice none 0 0) [] from .inr ⟨rfl, rfl⟩) (by decide)).mono ?_; rintro e v20 ⟨rfl, hb20⟩; have hbw : Below w.heap.size w v20 := below_two hbw hb20))
        go_ret
        exact ⟨rfl, hbw⟩
      · obtain ⟨ey, e1, e2⟩ := HYES.out rfl
        have hroom := HRM.out
        have ey := ey.symm
        have e1 := e1.symm
        subst ey e1 e2
        have e5 := (iv_len fv5).1
        subst e5
        obtain ⟨hfr, hb1', hb2', hb3'⟩ := claim_free hroom
        have hnum := pl_num (room_num hroom).1
        have hnm := s10_num (room_num hroom).2.1
        have rfl1 : IntKind.i64.wrap (fl0 + m1) = fl0 + m1 := by rw [IntKind.wrap_i64]; omega
        obtain ⟨ws, bd, bf, hws, wyes, _, _, wim⟩ := frees2 wd0 (fl0 + m1) m1 false xD
        obtain ⟨we, w1, w2⟩ := wyes hfr
        rw [hb1'] at w2
        rw [← w1] at hb3'
        have we := we.symm
        have w2 := w2.symm
        subst we w2
        have WIM : Hid (∀ (w : World) (a : Option Addr) (cap : Nat), ISmp w.heap.size w a xD → Calls Try.prog 29 #[.agg #[.int .i64 wd0, .int .i64 (fl0 + m1), .slice a xD.length cap], .int .i64 m1, .bool false] w (AnsP w xD bd fl0)) := wim
        clear wim wyes w1 HYES HNO HRM hroom hfr hb1' hnum hnm
        go_upto_region 17 with (first
          | (go_at_call 29; refine (WIM.out _ _ _ (iv_smp fv5)).mono ?_; rintro e v21 ⟨a13, n13, c13, rfl, fv13, hb21⟩; have hbw : Below w.heap.size w v21 := below_two hbw hb21; clear p0 p1 p2; have DP : Hid (Qc v21 (b3) wd0 fl0 (.slice aD xD.length cD)) := DP.out.next hb21; have p0 : v21.cell? ⟨b3, 0, none⟩ = some (.int .i64 wd0) := DP.out.c0; have p1 : v21.cell? ⟨b3, 1, none⟩ = some (.int .i64 fl0) := DP.out.c1; have p2 : v21.cell? ⟨b3, 2, none⟩ = some (.slice aD xD.length cD) := DP.out.c2; clear c0 c1 c2; have DC : Hid (Qc v21 (b5) wd0 (fl0 + m1) (.slice a5 xD.length c5)) := DC.out.next hb21; have c0 : v21.cell? ⟨b5, 0, none⟩ = some (.int .i64 wd0) := DC.out.c0; have c1 : v21.cell? ⟨b5, 1, none⟩ = some (.int .i64 (fl0 + m1)) := DC.out.c1; have c2 : v21.cell? ⟨b5, 2, none⟩ = some (.slice a5 xD.length c5) := DC.out.c2; have fvD := fvD.next hb21; have fv5 := fv5.next hb21))
        obtain ⟨v22, hv22⟩ : ∃ x, x = v21.alloc (.cells #[.int .i64 bd, .int .i64 fl0, .slice a13 n13 c13] 37) := ⟨_, rfl⟩
        obtain ⟨b13, eb13⟩ : ∃ b, b = v21.heap.size := ⟨_, rfl⟩
        rw [← hv22, ← eb13]
        have yb13 : v21.heap.size ≤ b13 := by omega
        have ub13 : b13 < v22.heap.size := by rw [hv22, eb13]; simp
        have kv22 : Below v21.heap.size v21 v22 := by rw [hv22]; exact new_below _ _
        have DB : Hid (Qc v22 (b13) bd fl0 (.slice a13 n13 c13)) := by rw [hv22, eb13]; exact qc_new _ bd fl0 _ _
        clear hv22 eb13
        have hbw : Below w.heap.size w v22 := below_two hbw kv22; clear p0 p1 p2
        have DP : Hid (Qc v22 (b3) wd0 fl0 (.slice aD xD.length cD)) := DP.out.next kv22
        have p0 : v22.cell? ⟨b3, 0, none⟩ = some (.int .i64 wd0) := DP.out.c0
        have p1 : v22.cell? ⟨b3, 1, none⟩ = some (.int .i64 fl0) := DP.out.c1
        have p2 : v22.cell? ⟨b3, 2, none⟩ = some (.slice aD xD.length cD) := DP.out.c2; clear c0 c1 c2
        have DC : Hid (Qc v22 (b5) wd0 (fl0 + m1) (.slice a5 xD.length c5)) := DC.out.next kv22
        have c0 : v22.cell? ⟨b5, 0, none⟩ = some (.int .i64 wd0) := DC.out.c0
        have c1 : v22.cell? ⟨b5, 1, none⟩ = some (.int .i64 (fl0 + m1)) := DC.out.c1
        have c2 : v22.cell? ⟨b5, 2, none⟩ = some (.slice a5 xD.length c5) := DC.out.c2
        have fvD := fvD.next kv22
        have fv5 := fv5.next kv22
        have g0 : v22.cell? ⟨b13, 0, none⟩ = some (.int .i64 bd) := DB.out.c0
        have g1 : v22.cell? ⟨b13, 1, none⟩ = some (.int .i64 fl0) := DB.out.c1
        have g2 : v22.cell? ⟨b13, 2, none⟩ = some (.slice a13 n13 c13) := DB.out.c2
        go_wp2
        go_ret
        exact ⟨rfl, hbw⟩
  · have hbig : (4096 : Int) < (len0 : Int) := by omega
    go_enter Try.func5, Try.ntmps5
    go_wp2
    go_ret
    exact ⟨rfl, Below.refl _ _⟩

/-! ### THE ROW's STEP: WRITTEN OUT: LEAVE IT -/
set_option maxRecDepth 100000 in
theorem lifted (os : Os) (started : os.Started) (H : Type) (enc : TypeId × Value → H) :
    ReturnsInHanded {} Try.checked os 5 .any (Rows.fnClaimedSpec.pre6 enc Try.prog Try.f5 Rows.fnClaimedRow.domain false) (Rows.fnClaimedSpec.post enc Try.prog Try.f5 false true false false) := by
  refine returnsInHanded_of_change (C := Try.checked) own started (by kernel_rfl) Try.func5
    (ChangeSpec.witness6 (enc := enc) (C := Try.checked) false ⟨#[], #[.slice none 0 0], []⟩ 8 (by kernel_rfl) (by kernel_rfl) (by kernel_rfl) (by kernel_rfl)) ?_
  intro W base args ds gs before hval0 hW hcnd _
  have hval : ∀ (j : Nat) t v, Try.f5.params[j]? = some t → args[j]? = some v → Value.okWide Try.prog W .any base t v := hval0
  have hW' := hW
  obtain ⟨p, q, hA0, hV, rfl, hfz, hnd⟩ := hW
  have hA : DataW.TrodAll enc Try.prog W 0 (fun _ => true) true Try.f5.params.toList args.toList ds p := hA0
  rw [Try.params5] at hA hval
  obtain ⟨v0, vs0, d0, ds0, p0, q0, hargs, rfl, rfl, h0, r0⟩ := trodAll_cons hA
  obtain ⟨rfl, rfl, rfl⟩ := trodAll_nil r0
  obtain rfl : args = #[v0] := by cases args; simp_all
  obtain ⟨rfl, rfl⟩ := trodVars_none hV
  obtain ⟨a0, len0, cap0, rfl⟩ := okWide_slice Try.underlying22 (hval 0 22 v0 rfl rfl)
  have k0 := h0
  have lt0 : ∀ x ∈ p0, x.block < W.heap.size := by obtain ⟨m, hm⟩ := k0; exact DataW.trod_lt m _ _ _ hm
  obtain ⟨z0, w0⟩ : ∃ zs, IsRow .u8 W a0 len0 cap0 zs := by
    obtain ⟨fuel, hf⟩ := h0
    rcases open_ints Try.underlying22 Try.underlying5 (by kernel_rfl) hf with ⟨hcs, _⟩ | ⟨x, l, c, zs, hcs, _, hl, hm, hz, _, hcell, hwz⟩
    · simp [Value.cells] at hcs
      obtain ⟨rfl, rfl, rfl⟩ := hcs
      exact ⟨[], .inl ⟨rfl, rfl, rfl, rfl⟩⟩
    · simp [Value.cells] at hcs
      obtain ⟨rfl, rfl, rfl⟩ := hcs
      exact ⟨zs, .inr ⟨_, rfl, hl, hm, by simpa using hz, hcell, hwz⟩⟩
  clear hA0 hval0
  refine (walk a0 len0 cap0 z0 W w0).mono fun e W' ⟨he, bel⟩ => ?_
  subst he
  exact ⟨_, rfl, _, _, _, [], _, [], hW', trodAll_mk1 (shut_bool Try.underlying4 _), (trodAll_cons_mk (Below.trod laidOut (by kernel_rfl) (of_decide_eq_true (by kernel_rfl)) k0 bel lt0) trodAll_mk0), rfl, bel.frame _, fun h => by cases h⟩

theorem over : Rows.fnClaimedRow.holds Try.pinned (OpenSpec.ofChange Rows.fnClaimedSpec) :=
  OpenClaim.holds_of_wide 5 Try.f5 rfl rfl rfl rfl rfl rfl rfl ⟨rfl, rfl, rfl, rfl, rfl⟩ rfl rfl rfl rfl rfl (by kernel_rfl) Try.func5 (by kernel_rfl)
    (of_decide_eq_true (by kernel_rfl)) (by unfold Func.isWrapper; first | (rw [if_pos (by decide +kernel)]; kernel_rfl) | (rw [if_neg (by decide +kernel)]; exact ⟨rfl, rfl⟩))
    (fun os started H enc _ => lifted os started H enc)

/-- ████ THE STATEMENT ████ -/
theorem proved : Rows.FnClaimedSaid := over
#print axioms proved
end Go.Proofs.Ytoeiheccmpjclaf.fnClaimed
namespace Go.Proofs.Ytoeiheccmpjclaf
theorem fnClaimed_holds : Rows.FnClaimedSaid := fnClaimed.proved
#print axioms fnClaimed_holds
end Go.Proofs.Ytoeiheccmpjclaf
