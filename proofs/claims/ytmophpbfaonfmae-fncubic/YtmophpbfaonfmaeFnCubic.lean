/- Proved: whatever the bytes, the law FnCubic returns true (at the Cc, the number and the time that the model draws of them impl.CubicAck, CubicLoss and CcOk answer as spec's do; the window stays within its bounds, never falls by what comes through, and falls by three tenths by a loss), and the bytes read as before; no condition. -/
import Derived.Test.YtmophpbfaonfmaeRows
import Derived.WalkKit
import Derived.ProofKit
import Derived.OpenShut
import Derived.ShutString
import Derived.ChangeOld
import Derived.Below
import Derived.Test.YtmophpbfaonfmaeDraw11c
import Derived.Test.YtmophpbfaonfmaeCubLaw
import Derived.Test.YtmophpbfaonfmaeLate
namespace Go.Proofs.Ytmophpbfaonfmae.fnCubic
open Go.ChangeShapes Go.WideShapes Go.ChangeAt Go.RowKit
open Go.ChangeMaps (open_string shut_string)
set_option linter.unusedVariables false

theorem own : ownKnob Try.prog.godebug = none := by kernel_rfl
theorem laidOut : laidOutB Try.prog = true := by kernel_rfl

/-- WHAT THE WALK IS TOLD OF A SLICE OF INTEGERS THAT CAME IN: it is nil; or it leads to a row of 'cap' cells, the numbers 'zs' (the first 'len' are its elements, the rest its spare room), each fitting its kind. -/
def IsRow (k : IntKind) (w : World) (a : Option Addr) (len cap : Nat) (zs : List Int) : Prop :=
  (a = none ∧ len = 0 ∧ cap = 0 ∧ zs = []) ∨
  ∃ x, a = some x ∧ len ≤ cap ∧ cap ≤ maxLen ∧ zs.length = cap ∧ (∀ i, i < zs.length → w.cell? (x.add i) = some (.int k (zs.getD i 0))) ∧ ∀ n ∈ zs, (Lit.int k n).wf = true

set_option linter.unusedSimpArgs false
set_option maxRecDepth 100000
theorem row_of {w : World} {a : Option Addr} {len cap : Nat} {zs : List Int} (h : IsRow .u8 w a len cap zs) : Row w.heap.size a len w := by
  intro i hi
  rcases h with ⟨rfl, rfl, rfl, rfl⟩ | ⟨x, rfl, hl, hm, hz, hcell, hwz⟩
  · omega
  · obtain ⟨b, off, spot⟩ := x
    have hspot : spot = none := by simpa [Addr.add] using World.cell?_spot (hcell 0 (by omega))
    subst hspot
    have hc := hcell i (by omega)
    have hc' : w.cell? ⟨b, off + i, none⟩ = some (.int .u8 (zs.getD i 0)) := by
      by_cases h0 : i = 0
      · subst h0; simpa [Addr.add] using hc
      · simpa [Addr.add, h0] using hc
    have hlt : i < zs.length := by omega
    have hm : zs.getD i 0 ∈ zs := by simp [List.getD, List.getElem?_eq_getElem hlt]
    obtain ⟨z0, z1⟩ := bounds_u8 (hwz _ hm)
    exact ⟨b, off, zs.getD i 0, rfl, World.block_lt_of_cell? w _ hc', hc', z0, z1⟩

/-! ### STEP 1: THE WALK: the Go text returns true, AND WRITES NOTHING THAT WAS THERE: 'Below w.heap.size w w'' (Derived/Below.lean: '.refl', '.alloc', '.drew', '.setCell' at a new block, '.trans'). Open each 'IsRow' by 'rcases' AHEAD of 'go_enter'; part every test ahead of the walk. -/
set_option maxHeartbeats 32000000 in
theorem walk (a0 : Option Addr) (len0 cap0 : Nat) (z0 : List Int) (w : World) (w0 : IsRow .u8 w a0 len0 cap0 z0) :
    Calls Try.prog 7 #[.slice a0 len0 cap0] w fun e w' => e = .returned (.bool true) ∧ Below w.heap.size w w' := by
  have row := row_of w0
  by_cases hs : len0 ≤ 4096
  · go_enter Try.func7, Try.ntmps7
    go_upto_region 4 with (first
      | (go_at_call 35; refine (drawCubicAck_any cap0 hs row (Nat.le_refl _)).mono ?_; rintro e w1 ⟨c, n, t, rfl, hbw⟩)
      | go_in)
    obtain ⟨k, wn, th, fl, ac, la, og, st, fr, sl⟩ := c
    simp only
    obtain ⟨⟨ak, awn, ath, afl, aac, ala, aog, ast, afr, asl⟩, HA0⟩ : ∃ A, cubC k wn th fl ac la og st fr sl n t = A := ⟨_, rfl⟩
    obtain ⟨⟨lk, lwn, lth, lfl, lac, lla, log, lst, lfr, lsl⟩, HL0⟩ : ∃ A, downC k wn th fl ac la og st fr sl = A := ⟨_, rfl⟩
    have HA : Hid (cubC k wn th fl ac la og st fr sl n t = ⟨ak, awn, ath, afl, aac, ala, aog, ast, afr, asl⟩) := HA0
    have HL : Hid (downC k wn th fl ac la og st fr sl = ⟨lk, lwn, lth, lfl, lac, lla, log, lst, lfr, lsl⟩) := HL0
    clear HA0 HL0
    obtain ⟨x1, B1, hu, hB, T1, hbA⟩ := lay10 w1 (.int .i64 k) (.int .i64 wn) (.int .i64 th) (.int .i64 fl) (.int .i64 ac) (.int .i64 la) (.int .i64 og) (.int .i64 st) (.int .i64 fr) (.bool sl) 31
    rw [← hu, ← hB]
    clear hu hB
    have hbw := below_two hbw hbA
    have q1_0 := T1.c0
    have q1_1 := T1.c1
    have q1_2 := T1.c2
    have q1_3 := T1.c3
    have q1_4 := T1.c4
    have q1_5 := T1.c5
    have q1_6 := T1.c6
    have q1_7 := T1.c7
    have q1_8 := T1.c8
    have q1_9 := T1.c9
    have z1 := T1.lt
    go_upto_region 5 with (first
      | (go_at_call 36; refine (implCubicAck_any k wn th fl ac la og st fr sl n t _).mono ?_; rintro e w2 ⟨rfl, hb⟩; rw [HA.out]; have hbw := below_two hbw hb; have T1 := T1.next hb; have q1_0 := T1.c0; have q1_1 := T1.c1; have q1_2 := T1.c2; have q1_3 := T1.c3; have q1_4 := T1.c4; have q1_5 := T1.c5; have q1_6 := T1.c6; have q1_7 := T1.c7; have q1_8 := T1.c8; have q1_9 := T1.c9; have z1 := T1.lt))
    try simp only
    obtain ⟨x2, B2, hu, hB, T2, hbA⟩ := lay10 w2 (.int .i64 ak) (.int .i64 awn) (.int .i64 ath) (.int .i64 afl) (.int .i64 aac) (.int .i64 ala) (.int .i64 aog) (.int .i64 ast) (.int .i64 afr) (.bool asl) 31
    rw [← hu, ← hB]
    clear hu hB
    have hbw := below_two hbw hbA
    have T1 := T1.next hbA
    have q1_0 := T1.c0
    have q1_1 := T1.c1
    have q1_2 := T1.c2
    have q1_3 := T1.c3
    have q1_4 := T1.c4
    have q1_5 := T1.c5
    have q1_6 := T1.c6
    have q1_7 := T1.c7
    have q1_8 := T1.c8
    have q1_9 := T1.c9
    have z1 := T1.lt
    have q2_0 := T2.c0
    have q2_1 := T2.c1
    have q2_2 := T2.c2
    have q2_3 := T2.c3
    have q2_4 := T2.c4
    have q2_5 := T2.c5
    have q2_6 := T2.c6
    have q2_7 := T2.c7
    have q2_8 := T2.c8
    have q2_9 := T2.c9
    have z2 := T2.lt
    go_upto_region 6 with (first
      | (go_at_call 37; refine (implCubicLoss_any k wn th fl ac la og st fr sl _).mono ?_; rintro e w3 ⟨rfl, hb⟩; rw [HL.out]; have hbw := below_two hbw hb; have T1 := T1.next hb; have T2 := T2.next hb; have q1_0 := T1.c0; have q1_1 := T1.c1; have q1_2 := T1.c2; have q1_3 := T1.c3; have q1_4 := T1.c4; have q1_5 := T1.c5; have q1_6 := T1.c6; have q1_7 := T1.c7; have q1_8 := T1.c8; have q1_9 := T1.c9; have z1 := T1.lt; have q2_0 := T2.c0; have q2_1 := T2.c1; have q2_2 := T2.c2; have q2_3 := T2.c3; have q2_4 := T2.c4; have q2_5 := T2.c5; have q2_6 := T2.c6; have q2_7 := T2.c7; have q2_8 := T2.c8; have q2_9 := T2.c9; have z2 := T2.lt))
    try simp only
    obtain ⟨x3, B3, hu, hB, T3, hbA⟩ := lay10 w3 (.int .i64 lk) (.int .i64 lwn) (.int .i64 lth) (.int .i64 lfl) (.int .i64 lac) (.int .i64 lla) (.int .i64 log) (.int .i64 lst) (.int .i64 lfr) (.bool lsl) 31
    rw [← hu, ← hB]
    clear hu hB
    have hbw := below_two hbw hbA
    have T1 := T1.next hbA
    have T2 := T2.next hbA
    have q1_0 := T1.c0
    have q1_1 := T1.c1
    have q1_2 := T1.c2
    have q1_3 := T1.c3
    have q1_4 := T1.c4
    have q1_5 := T1.c5
    have q1_6 := T1.c6
    have q1_7 := T1.c7
    have q1_8 := T1.c8
    have q1_9 := T1.c9
    have z1 := T1.lt
    have q2_0 := T2.c0
    have q2_1 := T2.c1
    have q2_2 := T2.c2
    have q2_3 := T2.c3
    have q2_4 := T2.c4
    have q2_5 := T2.c5
    have q2_6 := T2.c6
    have q2_7 := T2.c7
    have q2_8 := T2.c8
    have q2_9 := T2.c9
    have z2 := T2.lt
    have q3_0 := T3.c0
    have q3_1 := T3.c1
    have q3_2 := T3.c2
    have q3_3 := T3.c3
    have q3_4 := T3.c4
    have q3_5 := T3.c5
    have q3_6 := T3.c6
    have q3_7 := T3.c7
    have q3_8 := T3.c8
    have q3_9 := T3.c9
    have z3 := T3.lt
    obtain ⟨f, hf⟩ : ∃ f, ccB k wn th fl ac la og st fr = f := ⟨_, rfl⟩
    have HC : Hid (ccB k wn th fl ac la og st fr = f) := hf
    clear hf
    have HS : Hid (∀ w', Below x3.heap.size x3 w' → (fun w' => w'.cell? ⟨B1, 0, none⟩ = some (.int .i64 k) ∧ w'.cell? ⟨B1, 1, none⟩ = some (.int .i64 wn) ∧ w'.cell? ⟨B1, 2, none⟩ = some (.int .i64 th) ∧ w'.cell? ⟨B1, 3, none⟩ = some (.int .i64 fl) ∧ w'.cell? ⟨B1, 4, none⟩ = some (.int .i64 ac) ∧ w'.cell? ⟨B1, 5, none⟩ = some (.int .i64 la) ∧ w'.cell? ⟨B1, 6, none⟩ = some (.int .i64 og) ∧ w'.cell? ⟨B1, 7, none⟩ = some (.int .i64 st) ∧ w'.cell? ⟨B1, 8, none⟩ = some (.int .i64 fr) ∧ w'.cell? ⟨B1, 9, none⟩ = some (.bool sl) ∧ w'.cell? ⟨B2, 0, none⟩ = some (.int .i64 ak) ∧ w'.cell? ⟨B2, 1, none⟩ = some (.int .i64 awn) ∧ w'.cell? ⟨B2, 2, none⟩ = some (.int .i64 ath) ∧ w'.cell? ⟨B2, 3, none⟩ = some (.int .i64 afl) ∧ w'.cell? ⟨B2, 4, none⟩ = some (.int .i64 aac) ∧ w'.cell? ⟨B2, 5, none⟩ = some (.int .i64 ala) ∧ w'.cell? ⟨B2, 6, none⟩ = some (.int .i64 aog) ∧ w'.cell? ⟨B2, 7, none⟩ = some (.int .i64 ast) ∧ w'.cell? ⟨B2, 8, none⟩ = some (.int .i64 afr) ∧ w'.cell? ⟨B2, 9, none⟩ = some (.bool asl) ∧ w'.cell? ⟨B3, 0, none⟩ = some (.int .i64 lk) ∧ w'.cell? ⟨B3, 1, none⟩ = some (.int .i64 lwn) ∧ w'.cell? ⟨B3, 2, none⟩ = some (.int .i64 lth) ∧ w'.cell? ⟨B3, 3, none⟩ = some (.int .i64 lfl) ∧ w'.cell? ⟨B3, 4, none⟩ = some (.int .i64 lac) ∧ w'.cell? ⟨B3, 5, none⟩ = some (.int .i64 lla) ∧ w'.cell? ⟨B3, 6, none⟩ = some (.int .i64 log) ∧ w'.cell? ⟨B3, 7, none⟩ = some (.int .i64 lst) ∧ w'.cell? ⟨B3, 8, none⟩ = some (.int .i64 lfr) ∧ w'.cell? ⟨B3, 9, none⟩ = some (.bool lsl)) w') := by
      intro w' hb'
      have T1 := T1.next hb'
      have T2 := T2.next hb'
      have T3 := T3.next hb'
      exact ⟨T1.c0, T1.c1, T1.c2, T1.c3, T1.c4, T1.c5, T1.c6, T1.c7, T1.c8, T1.c9, T2.c0, T2.c1, T2.c2, T2.c3, T2.c4, T2.c5, T2.c6, T2.c7, T2.c8, T2.c9, T3.c0, T3.c1, T3.c2, T3.c3, T3.c4, T3.c5, T3.c6, T3.c7, T3.c8, T3.c9⟩
    have hr : Below x3.heap.size x3 x3.drew := (Below.refl _ _).drew
    refine wp_region_held_drew (S := fun w' => w'.cell? ⟨B1, 0, none⟩ = some (.int .i64 k) ∧ w'.cell? ⟨B1, 1, none⟩ = some (.int .i64 wn) ∧ w'.cell? ⟨B1, 2, none⟩ = some (.int .i64 th) ∧ w'.cell? ⟨B1, 3, none⟩ = some (.int .i64 fl) ∧ w'.cell? ⟨B1, 4, none⟩ = some (.int .i64 ac) ∧ w'.cell? ⟨B1, 5, none⟩ = some (.int .i64 la) ∧ w'.cell? ⟨B1, 6, none⟩ = some (.int .i64 og) ∧ w'.cell? ⟨B1, 7, none⟩ = some (.int .i64 st) ∧ w'.cell? ⟨B1, 8, none⟩ = some (.int .i64 fr) ∧ w'.cell? ⟨B1, 9, none⟩ = some (.bool sl) ∧ w'.cell? ⟨B2, 0, none⟩ = some (.int .i64 ak) ∧ w'.cell? ⟨B2, 1, none⟩ = some (.int .i64 awn) ∧ w'.cell? ⟨B2, 2, none⟩ = some (.int .i64 ath) ∧ w'.cell? ⟨B2, 3, none⟩ = some (.int .i64 afl) ∧ w'.cell? ⟨B2, 4, none⟩ = some (.int .i64 aac) ∧ w'.cell? ⟨B2, 5, none⟩ = some (.int .i64 ala) ∧ w'.cell? ⟨B2, 6, none⟩ = some (.int .i64 aog) ∧ w'.cell? ⟨B2, 7, none⟩ = some (.int .i64 ast) ∧ w'.cell? ⟨B2, 8, none⟩ = some (.int .i64 afr) ∧ w'.cell? ⟨B2, 9, none⟩ = some (.bool asl) ∧ w'.cell? ⟨B3, 0, none⟩ = some (.int .i64 lk) ∧ w'.cell? ⟨B3, 1, none⟩ = some (.int .i64 lwn) ∧ w'.cell? ⟨B3, 2, none⟩ = some (.int .i64 lth) ∧ w'.cell? ⟨B3, 3, none⟩ = some (.int .i64 lfl) ∧ w'.cell? ⟨B3, 4, none⟩ = some (.int .i64 lac) ∧ w'.cell? ⟨B3, 5, none⟩ = some (.int .i64 lla) ∧ w'.cell? ⟨B3, 6, none⟩ = some (.int .i64 log) ∧ w'.cell? ⟨B3, 7, none⟩ = some (.int .i64 lst) ∧ w'.cell? ⟨B3, 8, none⟩ = some (.int .i64 lfr) ∧ w'.cell? ⟨B3, 9, none⟩ = some (.bool lsl)) (by kernel_rfl) (HS.out _ hr) (fun hS => ?_)
    refine wpAnyH_take (i := 0) (v := ?_) rfl (by kernel_rfl) (by kernel_rfl) (by kernel_rfl) (fun _ _ _ h => h) (Or.inl ⟨by rfl, ?_⟩) (by assumption) ?_
    rotate_left 1
    · (intro w' hSw; (try dsimp only at hSw); go_simp; try with_reducible rfl)
    try simp only [Act.put, List.setIfInBounds_toArray, List.set_cons_zero, List.set_cons_succ, List.getElem_toArray, List.getElem_cons_succ, List.getElem_cons_zero]
    refine wpAnyH_take (i := 1) (v := ?_) rfl (by kernel_rfl) (by kernel_rfl) (by kernel_rfl) (fun _ _ _ h => h) (Or.inl ⟨by rfl, ?_⟩) (by assumption) ?_
    rotate_left 1
    · (intro w' hSw; (try dsimp only at hSw); go_simp; try with_reducible rfl)
    try simp only [Act.put, List.setIfInBounds_toArray, List.set_cons_zero, List.set_cons_succ, List.getElem_toArray, List.getElem_cons_succ, List.getElem_cons_zero]
    refine wpAnyH_take (i := 2) (v := ?_) rfl (by kernel_rfl) (by kernel_rfl) (by kernel_rfl) (fun _ _ _ h => h) (Or.inl ⟨by rfl, ?_⟩) (by assumption) ?_
    rotate_left 1
    · (intro w' hSw; (try dsimp only at hSw); go_simp; try with_reducible rfl)
    try simp only [Act.put, List.setIfInBounds_toArray, List.set_cons_zero, List.set_cons_succ, List.getElem_toArray, List.getElem_cons_succ, List.getElem_cons_zero]
    refine wpAnyH_take (i := 3) (v := ?_) rfl (by kernel_rfl) (by kernel_rfl) (by kernel_rfl) (fun _ _ _ h => h) (Or.inl ⟨by rfl, ?_⟩) (by assumption) ?_
    rotate_left 1
    · (intro w' hSw; (try dsimp only at hSw); go_simp; try with_reducible rfl)
    try simp only [Act.put, List.setIfInBounds_toArray, List.set_cons_zero, List.set_cons_succ, List.getElem_toArray, List.getElem_cons_succ, List.getElem_cons_zero]
    refine wpAnyH_ready (rs := [4]) (by kernel_rfl) (by simp) (AllReadyH.cons rfl (fun K hK => ?_) AllReadyH.nil)
    go_simp
    (refine (specCubicAck_any k wn th fl ac la og st fr sl n t _).mono ?_; rintro e y1 ⟨rfl, hbq⟩; rw [HA.out]; have hr := hr.trans (hbq.mono hr.size); have hSq := HS.out _ hr)
    refine hK.out _ _ (by assumption) (fun _ => ?_)
    try simp only [Act.put, List.setIfInBounds_toArray, List.set_cons_zero, List.set_cons_succ, List.getElem_toArray, List.getElem_cons_succ, List.getElem_cons_zero]
    refine wpAnyH_take (i := 5) (v := ?_) rfl (by kernel_rfl) (by kernel_rfl) (by kernel_rfl) (fun _ _ _ h => h) (Or.inl ⟨by rfl, ?_⟩) (by assumption) ?_
    rotate_left 1
    · (intro w' hSw; (try dsimp only at hSw); go_simp; try with_reducible rfl)
    try simp only [Act.put, List.setIfInBounds_toArray, List.set_cons_zero, List.set_cons_succ, List.getElem_toArray, List.getElem_cons_succ, List.getElem_cons_zero]
    refine wpAnyH_take (i := 6) (v := ?_) rfl (by kernel_rfl) (by kernel_rfl) (by kernel_rfl) (fun _ _ _ h => h) (Or.inl ⟨by rfl, ?_⟩) (by assumption) ?_
    rotate_left 1
    · (intro w' hSw; (try dsimp only at hSw); go_simp; try with_reducible rfl)
    try simp only [Act.put, List.setIfInBounds_toArray, List.set_cons_zero, List.set_cons_succ, List.getElem_toArray, List.getElem_cons_succ, List.getElem_cons_zero]
    refine wpAnyH_take (i := 7) (v := ?_) rfl (by kernel_rfl) (by kernel_rfl) (by kernel_rfl) (fun _ _ _ h => h) (Or.inl ⟨by rfl, ?_⟩) (by assumption) ?_
    rotate_left 1
    · (intro w' hSw; (try dsimp only at hSw); go_simp; try with_reducible rfl)
    try simp only [Act.put, List.setIfInBounds_toArray, List.set_cons_zero, List.set_cons_succ, List.getElem_toArray, List.getElem_cons_succ, List.getElem_cons_zero]
    refine wpAnyH_take (i := 8) (v := ?_) rfl (by kernel_rfl) (by kernel_rfl) (by kernel_rfl) (fun _ _ _ h => h) (Or.inl ⟨by rfl, ?_⟩) (by assumption) ?_
    rotate_left 1
    · (intro w' hSw; (try dsimp only at hSw); go_simp; try with_reducible rfl)
    try simp only [Act.put, List.setIfInBounds_toArray, List.set_cons_zero, List.set_cons_succ, List.getElem_toArray, List.getElem_cons_succ, List.getElem_cons_zero]
    refine wpAnyH_ready (rs := [9]) (by kernel_rfl) (by simp) (AllReadyH.cons rfl (fun K hK => ?_) AllReadyH.nil)
    go_simp
    (refine (specCubicLoss_any k wn th fl ac la og st fr sl _).mono ?_; rintro e y2 ⟨rfl, hbq⟩; rw [HL.out]; have hr := hr.trans (hbq.mono hr.size); have hSq := HS.out _ hr)
    refine hK.out _ _ (by assumption) (fun _ => ?_)
    try simp only [Act.put, List.setIfInBounds_toArray, List.set_cons_zero, List.set_cons_succ, List.getElem_toArray, List.getElem_cons_succ, List.getElem_cons_zero]
    refine wpAnyH_take (i := 10) (v := ?_) rfl (by kernel_rfl) (by kernel_rfl) (by kernel_rfl) (fun _ _ _ h => h) (Or.inl ⟨by rfl, ?_⟩) (by assumption) ?_
    rotate_left 1
    · (intro w' hSw; (try dsimp only at hSw); go_simp; try with_reducible rfl)
    try simp only [Act.put, List.setIfInBounds_toArray, List.set_cons_zero, List.set_cons_succ, List.getElem_toArray, List.getElem_cons_succ, List.getElem_cons_zero]
    refine wpAnyH_take (i := 11) (v := ?_) rfl (by kernel_rfl) (by kernel_rfl) (by kernel_rfl) (fun _ _ _ h => h) (Or.inl ⟨by rfl, ?_⟩) (by assumption) ?_
    rotate_left 1
    · (intro w' hSw; (try dsimp only at hSw); go_simp; try with_reducible rfl)
    try simp only [Act.put, List.setIfInBounds_toArray, List.set_cons_zero, List.set_cons_succ, List.getElem_toArray, List.getElem_cons_succ, List.getElem_cons_zero]
    refine wpAnyH_done (by kernel_rfl) ?_ _
    clear HS
    have hbw := below_two hbw hr
    have T1 := T1.next hr
    have T2 := T2.next hr
    have T3 := T3.next hr
    have q1_0 := T1.c0
    have q1_1 := T1.c1
    have q1_2 := T1.c2
    have q1_3 := T1.c3
    have q1_4 := T1.c4
    have q1_5 := T1.c5
    have q1_6 := T1.c6
    have q1_7 := T1.c7
    have q1_8 := T1.c8
    have q1_9 := T1.c9
    have z1 := T1.lt
    have q2_0 := T2.c0
    have q2_1 := T2.c1
    have q2_2 := T2.c2
    have q2_3 := T2.c3
    have q2_4 := T2.c4
    have q2_5 := T2.c5
    have q2_6 := T2.c6
    have q2_7 := T2.c7
    have q2_8 := T2.c8
    have q2_9 := T2.c9
    have z2 := T2.lt
    have q3_0 := T3.c0
    have q3_1 := T3.c1
    have q3_2 := T3.c2
    have q3_3 := T3.c3
    have q3_4 := T3.c4
    have q3_5 := T3.c5
    have q3_6 := T3.c6
    have q3_7 := T3.c7
    have q3_8 := T3.c8
    have q3_9 := T3.c9
    have z3 := T3.lt
    clear T1 T2 T3
    have z1_1 : B1 < y2.heap.size + 1 := by omega
    have n1_1 : ¬ B1 = y2.heap.size + 1 := by omega
    have p1_1 : ¬ y2.heap.size + 1 = B1 := by omega
    have z1_2 : B1 < y2.heap.size + 2 := by omega
    have n1_2 : ¬ B1 = y2.heap.size + 2 := by omega
    have p1_2 : ¬ y2.heap.size + 2 = B1 := by omega
    have z1_3 : B1 < y2.heap.size + 3 := by omega
    have n1_3 : ¬ B1 = y2.heap.size + 3 := by omega
    have p1_3 : ¬ y2.heap.size + 3 = B1 := by omega
    have z2_1 : B2 < y2.heap.size + 1 := by omega
    have n2_1 : ¬ B2 = y2.heap.size + 1 := by omega
    have p2_1 : ¬ y2.heap.size + 1 = B2 := by omega
    have z2_2 : B2 < y2.heap.size + 2 := by omega
    have n2_2 : ¬ B2 = y2.heap.size + 2 := by omega
    have p2_2 : ¬ y2.heap.size + 2 = B2 := by omega
    have z2_3 : B2 < y2.heap.size + 3 := by omega
    have n2_3 : ¬ B2 = y2.heap.size + 3 := by omega
    have p2_3 : ¬ y2.heap.size + 3 = B2 := by omega
    have z3_1 : B3 < y2.heap.size + 1 := by omega
    have n3_1 : ¬ B3 = y2.heap.size + 1 := by omega
    have p3_1 : ¬ y2.heap.size + 1 = B3 := by omega
    have z3_2 : B3 < y2.heap.size + 2 := by omega
    have n3_2 : ¬ B3 = y2.heap.size + 2 := by omega
    have p3_2 : ¬ y2.heap.size + 2 = B3 := by omega
    have z3_3 : B3 < y2.heap.size + 3 := by omega
    have n3_3 : ¬ B3 = y2.heap.size + 3 := by omega
    have p3_3 : ¬ y2.heap.size + 3 = B3 := by omega
    cases f
    · have hz1 : cubC k wn th fl ac la og st fr sl n t = zeroC := if_neg (fun h => by rw [HC.out] at h; cases h.1.1)
      have hz2 : downC k wn th fl ac la og st fr sl = zeroC := if_neg (by rw [HC.out]; decide)
      have e1 := hz1.symm.trans HA.out
      have e2 := hz2.symm.trans HL.out
      clear hz1 hz2 HA HL
      simp only [zeroC, C10.mk.injEq] at e1 e2
      obtain ⟨rfl, rfl, rfl, rfl, rfl, rfl, rfl, rfl, rfl, rfl⟩ := e1
      obtain ⟨rfl, rfl, rfl, rfl, rfl, rfl, rfl, rfl, rfl, rfl⟩ := e2
      go_wp2_with (first | (go_at_call 22; refine (specCcOk_is HC.out sl _).mono ?_; rintro e y6 ⟨rfl, rfl⟩))
      go_ret
      exact ⟨rfl, below_two (x := y2) hbw (by go_grown)⟩
    · have hz2 : downC k wn th fl ac la og st fr sl = ⟨k, tenW wn, tenW wn, fl, 0, lastW wn la, 0, 0, 0, false⟩ := if_pos HC.out
      have e2 := hz2.symm.trans HL.out
      clear hz2 HL
      simp only [C10.mk.injEq] at e2
      obtain ⟨hk3, hw3, ht3, hf3, ha3, hl3, ho3, hs3, hr3, hq3⟩ := e2
      subst hk3 ht3 hf3 ha3 hl3 ho3 hs3 hr3 hq3
      subst hw3
      obtain ⟨hkn, hwn, htn, hfn, han, _⟩ := cc_num HC.out
      obtain ⟨H0, H1, H2⟩ := ten_in hwn
      have HCL : Hid (ccB k (tenW wn) (tenW wn) fl 0 (lastW wn la) 0 0 0 = true) := cc_make hkn (by omega) (by omega) hfn (by omega) (last_in hwn) (by omega) (by omega) (by omega)
      obtain ⟨H, hH⟩ : ∃ H, tenW wn = H := ⟨_, rfl⟩
      obtain ⟨J, hJ⟩ : ∃ J, lastW wn la = J := ⟨_, rfl⟩
      rw [hH] at H0 H1 H2
      rw [hH, hJ] at HCL
      simp only [hH, hJ] at *
      clear hH hJ
      have r1 : IntKind.i64.wrap (7 * wn) = 7 * wn := by rw [IntKind.wrap_i64]; omega
      have ed := tdiv10 (x := 7 * wn) (by omega) 10
      have r2 : IntKind.i64.wrap (7 * wn / 10) = 7 * wn / 10 := by rw [IntKind.wrap_i64]; omega
      have H1' : ¬ wn < H := by omega
      have H2' : ¬ H < 7 * wn / 10 := by omega
      go_upto_region 12 with (first | (go_at_call 22; refine (specCcOk_is HC.out sl _).mono ?_; rintro e y6 ⟨rfl, rfl⟩) | (go_at_call 21; refine (implCcOk_is HCL.out false _).mono ?_; rintro e y7 ⟨rfl, rfl⟩))
      by_cases h23 : n10B n = true ∧ timeB t = true
      · obtain ⟨hk1, hok, g1, g2, g3⟩ := cub_good HC.out h23.1 h23.2 HA.out
        have HOK : Hid (ccB ak awn ath afl aac ala aog ast afr = true) := hok
        have awb := (cc_num hok).2.1
        clear hok HA h23
        have hk2 := hk1.symm
        clear hk1
        subst hk2
        have hk0 : (k == 0) = false := by rw [beq_eq_false_iff_ne]; omega
        have s1 : IntKind.i64.wrap (2 * awn) = 2 * awn := by rw [IntKind.wrap_i64]; omega
        have s2 : IntKind.i64.wrap (3 * wn) = 3 * wn := by rw [IntKind.wrap_i64]; omega
        have s3 : IntKind.i64.wrap (3 * wn + 1) = 3 * wn + 1 := by rw [IntKind.wrap_i64]; omega
        rcases g3 with ⟨rfl, g3⟩ | ⟨g3, g4, g5⟩
        · go_wp2_with (first | (go_at_call 21; refine (implCcOk_is HOK.out asl _).mono ?_; rintro e y8 ⟨rfl, rfl⟩))
          go_ret
          exact ⟨rfl, below_two (x := y2) hbw (by go_grown)⟩
        · by_cases g7 : 2 * awn ≤ 3 * wn + 1
          · clear g5
            cases sl
            · clear g3
              go_wp2_with (first | (go_at_call 21; refine (implCcOk_is HOK.out asl _).mono ?_; rintro e y8 ⟨rfl, rfl⟩))
              go_ret
              exact ⟨rfl, below_two (x := y2) hbw (by go_grown)⟩
            · have g6 := g3.resolve_left (by decide)
              clear g3
              go_wp2_with (first | (go_at_call 21; refine (implCcOk_is HOK.out asl _).mono ?_; rintro e y8 ⟨rfl, rfl⟩))
              go_ret
              exact ⟨rfl, below_two (x := y2) hbw (by go_grown)⟩
          · have g8 : awn = afr := g5.resolve_left g7
            clear g5
            subst g8
            cases sl
            · clear g3
              go_wp2_with (first | (go_at_call 21; refine (implCcOk_is HOK.out asl _).mono ?_; rintro e y8 ⟨rfl, rfl⟩))
              go_ret
              exact ⟨rfl, below_two (x := y2) hbw (by go_grown)⟩
            · have g6 := g3.resolve_left (by decide)
              clear g3
              go_wp2_with (first | (go_at_call 21; refine (implCcOk_is HOK.out asl _).mono ?_; rintro e y8 ⟨rfl, rfl⟩))
              go_ret
              exact ⟨rfl, below_two (x := y2) hbw (by go_grown)⟩
      · have hz1 : cubC k wn th fl ac la og st fr sl n t = zeroC := if_neg (fun h => h23 ⟨h.1.2, h.2⟩)
        have e1 := hz1.symm.trans HA.out
        clear hz1 HA h23
        simp only [zeroC, C10.mk.injEq] at e1
        obtain ⟨rfl, rfl, rfl, rfl, rfl, rfl, rfl, rfl, rfl, rfl⟩ := e1
        go_wp2
        go_ret
        exact ⟨rfl, below_two (x := y2) hbw (by go_grown)⟩
  · have hs' : (4096 : Int) < (len0 : Int) := by omega
    go_enter Try.func7, Try.ntmps7
    go_wp2_with (first | go_in)
    go_ret
    exact ⟨rfl, Below.refl _ _⟩

/-! ### THE ROW's STEP: WRITTEN OUT: LEAVE IT -/
set_option maxRecDepth 100000 in
theorem lifted (os : Os) (started : os.Started) (H : Type) (enc : TypeId × Value → H) :
    ReturnsInHanded {} Try.checked os 7 .any (Rows.fnCubicSpec.pre6 enc Try.prog Try.f7 Rows.fnCubicRow.domain false) (Rows.fnCubicSpec.post enc Try.prog Try.f7 false true false false) := by
  refine returnsInHanded_of_change (C := Try.checked) own started (by kernel_rfl) Try.func7
    (ChangeSpec.witness6 (enc := enc) (C := Try.checked) false ⟨#[], #[.slice none 0 0], []⟩ 8 (by kernel_rfl) (by kernel_rfl) (by kernel_rfl) (by kernel_rfl)) ?_
  intro W base args ds gs before hval0 hW hcnd _
  have hval : ∀ (j : Nat) t v, Try.f7.params[j]? = some t → args[j]? = some v → Value.okWide Try.prog W .any base t v := hval0
  have hW' := hW
  obtain ⟨p, q, hA0, hV, rfl, hfz, hnd⟩ := hW
  have hA : DataW.TrodAll enc Try.prog W 0 (fun _ => true) true Try.f7.params.toList args.toList ds p := hA0
  rw [Try.params7] at hA hval
  obtain ⟨v0, vs0, d0, ds0, p0, q0, hargs, rfl, rfl, h0, r0⟩ := trodAll_cons hA
  obtain ⟨rfl, rfl, rfl⟩ := trodAll_nil r0
  obtain rfl : args = #[v0] := by cases args; simp_all
  obtain ⟨rfl, rfl⟩ := trodVars_none hV
  obtain ⟨a0, len0, cap0, rfl⟩ := okWide_slice Try.underlying22 (hval 0 22 v0 rfl rfl)
  have k0 := h0
  have lt0 : ∀ x ∈ p0, x.block < W.heap.size := by obtain ⟨m, hm⟩ := k0; exact DataW.trod_lt m _ _ _ hm
  obtain ⟨z0, w0⟩ : ∃ zs, IsRow .u8 W a0 len0 cap0 zs := by
    obtain ⟨fuel, hf⟩ := h0
    rcases open_ints Try.underlying22 Try.underlying5 (by kernel_rfl) hf with ⟨hcs, _⟩ | ⟨x, l, c, zs, hcs, _, hl, hm, hz, _, hcell, hwz⟩
    · simp [Value.cells] at hcs
      obtain ⟨rfl, rfl, rfl⟩ := hcs
      exact ⟨[], .inl ⟨rfl, rfl, rfl, rfl⟩⟩
    · simp [Value.cells] at hcs
      obtain ⟨rfl, rfl, rfl⟩ := hcs
      exact ⟨zs, .inr ⟨_, rfl, hl, hm, by simpa using hz, hcell, hwz⟩⟩
  clear hA0 hval0
  refine (walk a0 len0 cap0 z0 W w0).mono fun e W' ⟨he, bel⟩ => ?_
  subst he
  exact ⟨_, rfl, _, _, _, [], _, [], hW', trodAll_mk1 (shut_bool Try.underlying4 _), (trodAll_cons_mk (Below.trod laidOut (by kernel_rfl) (of_decide_eq_true (by kernel_rfl)) k0 bel lt0) trodAll_mk0), rfl, bel.frame _, fun h => by cases h⟩

theorem over : Rows.fnCubicRow.holds Try.pinned (OpenSpec.ofChange Rows.fnCubicSpec) :=
  OpenClaim.holds_of_wide 7 Try.f7 rfl rfl rfl rfl rfl rfl rfl ⟨rfl, rfl, rfl, rfl, rfl⟩ rfl rfl rfl rfl rfl (by kernel_rfl) Try.func7 (by kernel_rfl)
    (of_decide_eq_true (by kernel_rfl)) (by unfold Func.isWrapper; first | (rw [if_pos (by decide +kernel)]; kernel_rfl) | (rw [if_neg (by decide +kernel)]; exact ⟨rfl, rfl⟩))
    (fun os started H enc _ => lifted os started H enc)

/-- ████ THE STATEMENT ████ -/
theorem proved : Rows.FnCubicSaid := over
#print axioms proved
end Go.Proofs.Ytmophpbfaonfmae.fnCubic
namespace Go.Proofs.Ytmophpbfaonfmae
theorem fnCubic_holds : Rows.FnCubicSaid := fnCubic.proved
#print axioms fnCubic_holds
end Go.Proofs.Ytmophpbfaonfmae
