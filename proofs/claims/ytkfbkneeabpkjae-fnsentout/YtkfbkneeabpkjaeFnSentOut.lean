/- Proved: whatever the bytes, the law FnSentOut returns true (at the Cc, the size and the kind that the model draws of them impl.Sent and impl.NewCc answer as spec's do; what is sent is in flight, and never more than the window), and the bytes read as before; no condition. -/
import Derived.Test.YtkfbkneeabpkjaeRows
import Derived.WalkKit
import Derived.ProofKit
import Derived.OpenShut
import Derived.ShutString
import Derived.ChangeOld
import Derived.Below
import Derived.Test.YtkfbkneeabpkjaeDraw10d
import Derived.Test.YtkfbkneeabpkjaeCcLaw
namespace Go.Proofs.Ytkfbkneeabpkjae.fnSentOut
open Go.ChangeShapes Go.WideShapes Go.ChangeAt Go.RowKit
open Go.ChangeMaps (open_string shut_string)
set_option linter.unusedVariables false

theorem own : ownKnob Try.prog.godebug = none := by kernel_rfl
theorem laidOut : laidOutB Try.prog = true := by kernel_rfl

/-- WHAT THE WALK IS TOLD OF A SLICE OF INTEGERS THAT CAME IN: it is nil; or it leads to a row of 'cap' cells, the numbers 'zs' (the first 'len' are its elements, the rest its spare room), each fitting its kind. -/
def IsRow (k : IntKind) (w : World) (a : Option Addr) (len cap : Nat) (zs : List Int) : Prop :=
  (a = none ∧ len = 0 ∧ cap = 0 ∧ zs = []) ∨
  ∃ x, a = some x ∧ len ≤ cap ∧ cap ≤ maxLen ∧ zs.length = cap ∧ (∀ i, i < zs.length → w.cell? (x.add i) = some (.int k (zs.getD i 0))) ∧ ∀ n ∈ zs, (Lit.int k n).wf = true

set_option linter.unusedSimpArgs false
theorem row_of {w : World} {a : Option Addr} {len cap : Nat} {zs : List Int} (h : IsRow .u8 w a len cap zs) : Row w.heap.size a len w := by
  intro i hi
  rcases h with ⟨rfl, rfl, rfl, rfl⟩ | ⟨x, rfl, hl, hm, hz, hcell, hwz⟩
  · omega
  · obtain ⟨b, off, spot⟩ := x
    have hspot : spot = none := by simpa [Addr.add] using World.cell?_spot (hcell 0 (by omega))
    subst hspot
    have hc := hcell i (by omega)
    have hc' : w.cell? ⟨b, off + i, none⟩ = some (.int .u8 (zs.getD i 0)) := by
      by_cases h0 : i = 0
      · subst h0; simpa [Addr.add] using hc
      · simpa [Addr.add, h0] using hc
    have hlt : i < zs.length := by omega
    have hm : zs.getD i 0 ∈ zs := by simp [List.getD, List.getElem?_eq_getElem hlt]
    obtain ⟨z0, z1⟩ := bounds_u8 (hwz _ hm)
    exact ⟨b, off, zs.getD i 0, rfl, World.block_lt_of_cell? w _ hc', hc', z0, z1⟩

/-! ### STEP 1: THE WALK: the Go text returns true, AND WRITES NOTHING THAT WAS THERE: 'Below w.heap.size w w'' (Derived/Below.lean: '.refl', '.alloc', '.drew', '.setCell' at a new block, '.trans'). Open each 'IsRow' by 'rcases' AHEAD of 'go_enter'; part every test ahead of the walk. -/
set_option maxHeartbeats 16000000 in
theorem walk (a0 : Option Addr) (len0 cap0 : Nat) (z0 : List Int) (w : World) (w0 : IsRow .u8 w a0 len0 cap0 z0) :
    Calls Try.prog 5 #[.slice a0 len0 cap0] w fun e w' => e = .returned (.bool true) ∧ Below w.heap.size w w' := by
  have row := row_of w0
  by_cases hs : len0 ≤ 4096
  · go_enter Try.func5, Try.ntmps5
    go_upto_region 4 with (first
      | (go_at_call 21; refine (drawSent_any cap0 hs row (Nat.le_refl _)).mono ?_; rintro e w1 ⟨c, n, rfl, hbw⟩)
      | go_in)
    obtain ⟨k, wn, th, fl, ac, la, og, st, fr, sl⟩ := c
    simp only
    obtain ⟨u1, B1, hu, hB, T1, hbA⟩ := lay10 w1 (.int .i64 k) (.int .i64 wn) (.int .i64 th) (.int .i64 fl) (.int .i64 ac) (.int .i64 la) (.int .i64 og) (.int .i64 st) (.int .i64 fr) (.bool sl) 31
    rw [← hu, ← hB]
    clear hu hB
    have hbw := below_two hbw hbA
    have a1_0 := T1.c0
    have a1_1 := T1.c1
    have a1_2 := T1.c2
    have a1_3 := T1.c3
    have a1_4 := T1.c4
    have a1_5 := T1.c5
    have a1_6 := T1.c6
    have a1_7 := T1.c7
    have a1_8 := T1.c8
    have a1_9 := T1.c9
    have l1 := T1.lt
    cases hsent : sentB k wn th fl ac la og st fr n
    · go_upto_region 5 with (first
        | (go_at_call 22; refine (implSent_f sl _ hsent).mono ?_; rintro e w2 ⟨rfl, hb⟩; have hbw := below_two hbw hb; have T1 := T1.next hb; have a1_0 := T1.c0; have a1_1 := T1.c1; have a1_2 := T1.c2; have a1_3 := T1.c3; have a1_4 := T1.c4; have a1_5 := T1.c5; have a1_6 := T1.c6; have a1_7 := T1.c7; have a1_8 := T1.c8; have a1_9 := T1.c9; have l1 := T1.lt))
      obtain ⟨u2, B2, hu, hB, T2, hbA⟩ := lay10 w2 (.int .i64 0) (.int .i64 0) (.int .i64 0) (.int .i64 0) (.int .i64 0) (.int .i64 0) (.int .i64 0) (.int .i64 0) (.int .i64 0) (.bool false) 31
      rw [← hu, ← hB]
      clear hu hB
      have hbw := below_two hbw hbA
      have T1 := T1.next hbA
      have a1_0 := T1.c0
      have a1_1 := T1.c1
      have a1_2 := T1.c2
      have a1_3 := T1.c3
      have a1_4 := T1.c4
      have a1_5 := T1.c5
      have a1_6 := T1.c6
      have a1_7 := T1.c7
      have a1_8 := T1.c8
      have a1_9 := T1.c9
      have l1 := T1.lt
      have a2_0 := T2.c0
      have a2_1 := T2.c1
      have a2_2 := T2.c2
      have a2_3 := T2.c3
      have a2_4 := T2.c4
      have a2_5 := T2.c5
      have a2_6 := T2.c6
      have a2_7 := T2.c7
      have a2_8 := T2.c8
      have a2_9 := T2.c9
      have l2 := T2.lt
      go_upto_region 6 with (first
        | (go_at_call 23; refine (specSent_f sl _ hsent).mono ?_; rintro e w3 ⟨rfl, hb⟩; have hbw := below_two hbw hb; have T1 := T1.next hb; have T2 := T2.next hb; have a1_0 := T1.c0; have a1_1 := T1.c1; have a1_2 := T1.c2; have a1_3 := T1.c3; have a1_4 := T1.c4; have a1_5 := T1.c5; have a1_6 := T1.c6; have a1_7 := T1.c7; have a1_8 := T1.c8; have a1_9 := T1.c9; have l1 := T1.lt; have a2_0 := T2.c0; have a2_1 := T2.c1; have a2_2 := T2.c2; have a2_3 := T2.c3; have a2_4 := T2.c4; have a2_5 := T2.c5; have a2_6 := T2.c6; have a2_7 := T2.c7; have a2_8 := T2.c8; have a2_9 := T2.c9; have l2 := T2.lt))
      obtain ⟨u3, B3, hu, hB, T3, hbA⟩ := lay10 w3 (.int .i64 0) (.int .i64 0) (.int .i64 0) (.int .i64 0) (.int .i64 0) (.int .i64 0) (.int .i64 0) (.int .i64 0) (.int .i64 0) (.bool false) 31
      rw [← hu, ← hB]
      clear hu hB
      have hbw := below_two hbw hbA
      have T1 := T1.next hbA
      have T2 := T2.next hbA
      have a1_0 := T1.c0
      have a1_1 := T1.c1
      have a1_2 := T1.c2
      have a1_3 := T1.c3
      have a1_4 := T1.c4
      have a1_5 := T1.c5
      have a1_6 := T1.c6
      have a1_7 := T1.c7
      have a1_8 := T1.c8
      have a1_9 := T1.c9
      have l1 := T1.lt
      have a2_0 := T2.c0
      have a2_1 := T2.c1
      have a2_2 := T2.c2
      have a2_3 := T2.c3
      have a2_4 := T2.c4
      have a2_5 := T2.c5
      have a2_6 := T2.c6
      have a2_7 := T2.c7
      have a2_8 := T2.c8
      have a2_9 := T2.c9
      have l2 := T2.lt
      have a3_0 := T3.c0
      have a3_1 := T3.c1
      have a3_2 := T3.c2
      have a3_3 := T3.c3
      have a3_4 := T3.c4
      have a3_5 := T3.c5
      have a3_6 := T3.c6
      have a3_7 := T3.c7
      have a3_8 := T3.c8
      have a3_9 := T3.c9
      have l3 := T3.lt
      go_upto_region 9 with (first
        | (go_at_call 24; refine (drawNewCc_any cap0 hs (row.mono hbw) hbw.size).mono ?_; rintro e w4 ⟨kk, rfl, hb⟩; have hbw := below_two hbw hb; have T1 := T1.next hb; have T2 := T2.next hb; have T3 := T3.next hb; have a1_0 := T1.c0; have a1_1 := T1.c1; have a1_2 := T1.c2; have a1_3 := T1.c3; have a1_4 := T1.c4; have a1_5 := T1.c5; have a1_6 := T1.c6; have a1_7 := T1.c7; have a1_8 := T1.c8; have a1_9 := T1.c9; have l1 := T1.lt; have a2_0 := T2.c0; have a2_1 := T2.c1; have a2_2 := T2.c2; have a2_3 := T2.c3; have a2_4 := T2.c4; have a2_5 := T2.c5; have a2_6 := T2.c6; have a2_7 := T2.c7; have a2_8 := T2.c8; have a2_9 := T2.c9; have l2 := T2.lt; have a3_0 := T3.c0; have a3_1 := T3.c1; have a3_2 := T3.c2; have a3_3 := T3.c3; have a3_4 := T3.c4; have a3_5 := T3.c5; have a3_6 := T3.c6; have a3_7 := T3.c7; have a3_8 := T3.c8; have a3_9 := T3.c9; have l3 := T3.lt))
      cases hk : kindB kk
      · go_upto_region 10 with (first
          | (go_at_call 25; refine (implNewCc_no _ hk).mono ?_; rintro e w5 ⟨rfl, hb⟩; have hbw := below_two hbw hb; have T1 := T1.next hb; have T2 := T2.next hb; have T3 := T3.next hb; have a1_0 := T1.c0; have a1_1 := T1.c1; have a1_2 := T1.c2; have a1_3 := T1.c3; have a1_4 := T1.c4; have a1_5 := T1.c5; have a1_6 := T1.c6; have a1_7 := T1.c7; have a1_8 := T1.c8; have a1_9 := T1.c9; have l1 := T1.lt; have a2_0 := T2.c0; have a2_1 := T2.c1; have a2_2 := T2.c2; have a2_3 := T2.c3; have a2_4 := T2.c4; have a2_5 := T2.c5; have a2_6 := T2.c6; have a2_7 := T2.c7; have a2_8 := T2.c8; have a2_9 := T2.c9; have l2 := T2.lt; have a3_0 := T3.c0; have a3_1 := T3.c1; have a3_2 := T3.c2; have a3_3 := T3.c3; have a3_4 := T3.c4; have a3_5 := T3.c5; have a3_6 := T3.c6; have a3_7 := T3.c7; have a3_8 := T3.c8; have a3_9 := T3.c9; have l3 := T3.lt))
        obtain ⟨u5, B5, hu, hB, T5, hbA⟩ := lay10 w5 (.int .i64 0) (.int .i64 0) (.int .i64 0) (.int .i64 0) (.int .i64 0) (.int .i64 0) (.int .i64 0) (.int .i64 0) (.int .i64 0) (.bool false) 31
        rw [← hu, ← hB]
        clear hu hB
        have hbw := below_two hbw hbA
        have T1 := T1.next hbA
        have T2 := T2.next hbA
        have T3 := T3.next hbA
        have a1_0 := T1.c0
        have a1_1 := T1.c1
        have a1_2 := T1.c2
        have a1_3 := T1.c3
        have a1_4 := T1.c4
        have a1_5 := T1.c5
        have a1_6 := T1.c6
        have a1_7 := T1.c7
        have a1_8 := T1.c8
        have a1_9 := T1.c9
        have l1 := T1.lt
        have a2_0 := T2.c0
        have a2_1 := T2.c1
        have a2_2 := T2.c2
        have a2_3 := T2.c3
        have a2_4 := T2.c4
        have a2_5 := T2.c5
        have a2_6 := T2.c6
        have a2_7 := T2.c7
        have a2_8 := T2.c8
        have a2_9 := T2.c9
        have l2 := T2.lt
        have a3_0 := T3.c0
        have a3_1 := T3.c1
        have a3_2 := T3.c2
        have a3_3 := T3.c3
        have a3_4 := T3.c4
        have a3_5 := T3.c5
        have a3_6 := T3.c6
        have a3_7 := T3.c7
        have a3_8 := T3.c8
        have a3_9 := T3.c9
        have l3 := T3.lt
        have a5_0 := T5.c0
        have a5_1 := T5.c1
        have a5_2 := T5.c2
        have a5_3 := T5.c3
        have a5_4 := T5.c4
        have a5_5 := T5.c5
        have a5_6 := T5.c6
        have a5_7 := T5.c7
        have a5_8 := T5.c8
        have a5_9 := T5.c9
        have l5 := T5.lt
        go_upto_region 11 with (first
          | (go_at_call 26; refine (specNewCc_no _ hk).mono ?_; rintro e w6 ⟨rfl, hb⟩; have hbw := below_two hbw hb; have T1 := T1.next hb; have T2 := T2.next hb; have T3 := T3.next hb; have T5 := T5.next hb; have a1_0 := T1.c0; have a1_1 := T1.c1; have a1_2 := T1.c2; have a1_3 := T1.c3; have a1_4 := T1.c4; have a1_5 := T1.c5; have a1_6 := T1.c6; have a1_7 := T1.c7; have a1_8 := T1.c8; have a1_9 := T1.c9; have l1 := T1.lt; have a2_0 := T2.c0; have a2_1 := T2.c1; have a2_2 := T2.c2; have a2_3 := T2.c3; have a2_4 := T2.c4; have a2_5 := T2.c5; have a2_6 := T2.c6; have a2_7 := T2.c7; have a2_8 := T2.c8; have a2_9 := T2.c9; have l2 := T2.lt; have a3_0 := T3.c0; have a3_1 := T3.c1; have a3_2 := T3.c2; have a3_3 := T3.c3; have a3_4 := T3.c4; have a3_5 := T3.c5; have a3_6 := T3.c6; have a3_7 := T3.c7; have a3_8 := T3.c8; have a3_9 := T3.c9; have l3 := T3.lt; have a5_0 := T5.c0; have a5_1 := T5.c1; have a5_2 := T5.c2; have a5_3 := T5.c3; have a5_4 := T5.c4; have a5_5 := T5.c5; have a5_6 := T5.c6; have a5_7 := T5.c7; have a5_8 := T5.c8; have a5_9 := T5.c9; have l5 := T5.lt))
        obtain ⟨u6, B6, hu, hB, T6, hbA⟩ := lay10 w6 (.int .i64 0) (.int .i64 0) (.int .i64 0) (.int .i64 0) (.int .i64 0) (.int .i64 0) (.int .i64 0) (.int .i64 0) (.int .i64 0) (.bool false) 31
        rw [← hu, ← hB]
        clear hu hB
        have hbw := below_two hbw hbA
        have T1 := T1.next hbA
        have T2 := T2.next hbA
        have T3 := T3.next hbA
        have T5 := T5.next hbA
        have a1_0 := T1.c0
        have a1_1 := T1.c1
        have a1_2 := T1.c2
        have a1_3 := T1.c3
        have a1_4 := T1.c4
        have a1_5 := T1.c5
        have a1_6 := T1.c6
        have a1_7 := T1.c7
        have a1_8 := T1.c8
        have a1_9 := T1.c9
        have l1 := T1.lt
        have a2_0 := T2.c0
        have a2_1 := T2.c1
        have a2_2 := T2.c2
        have a2_3 := T2.c3
        have a2_4 := T2.c4
        have a2_5 := T2.c5
        have a2_6 := T2.c6
        have a2_7 := T2.c7
        have a2_8 := T2.c8
        have a2_9 := T2.c9
        have l2 := T2.lt
        have a3_0 := T3.c0
        have a3_1 := T3.c1
        have a3_2 := T3.c2
        have a3_3 := T3.c3
        have a3_4 := T3.c4
        have a3_5 := T3.c5
        have a3_6 := T3.c6
        have a3_7 := T3.c7
        have a3_8 := T3.c8
        have a3_9 := T3.c9
        have l3 := T3.lt
        have a5_0 := T5.c0
        have a5_1 := T5.c1
        have a5_2 := T5.c2
        have a5_3 := T5.c3
        have a5_4 := T5.c4
        have a5_5 := T5.c5
        have a5_6 := T5.c6
        have a5_7 := T5.c7
        have a5_8 := T5.c8
        have a5_9 := T5.c9
        have l5 := T5.lt
        have a6_0 := T6.c0
        have a6_1 := T6.c1
        have a6_2 := T6.c2
        have a6_3 := T6.c3
        have a6_4 := T6.c4
        have a6_5 := T6.c5
        have a6_6 := T6.c6
        have a6_7 := T6.c7
        have a6_8 := T6.c8
        have a6_9 := T6.c9
        have l6 := T6.lt
        go_wp2_with (first
          | fail)
        go_ret
        exact ⟨rfl, hbw⟩
      · go_upto_region 10 with (first
          | (go_at_call 25; refine (implNewCc_yes _ hk).mono ?_; rintro e w5 ⟨rfl, hb⟩; have hbw := below_two hbw hb; have T1 := T1.next hb; have T2 := T2.next hb; have T3 := T3.next hb; have a1_0 := T1.c0; have a1_1 := T1.c1; have a1_2 := T1.c2; have a1_3 := T1.c3; have a1_4 := T1.c4; have a1_5 := T1.c5; have a1_6 := T1.c6; have a1_7 := T1.c7; have a1_8 := T1.c8; have a1_9 := T1.c9; have l1 := T1.lt; have a2_0 := T2.c0; have a2_1 := T2.c1; have a2_2 := T2.c2; have a2_3 := T2.c3; have a2_4 := T2.c4; have a2_5 := T2.c5; have a2_6 := T2.c6; have a2_7 := T2.c7; have a2_8 := T2.c8; have a2_9 := T2.c9; have l2 := T2.lt; have a3_0 := T3.c0; have a3_1 := T3.c1; have a3_2 := T3.c2; have a3_3 := T3.c3; have a3_4 := T3.c4; have a3_5 := T3.c5; have a3_6 := T3.c6; have a3_7 := T3.c7; have a3_8 := T3.c8; have a3_9 := T3.c9; have l3 := T3.lt))
        obtain ⟨u5, B5, hu, hB, T5, hbA⟩ := lay10 w5 (.int .i64 kk) (.int .i64 15000) (.int .i64 1000000000) (.int .i64 0) (.int .i64 0) (.int .i64 0) (.int .i64 0) (.int .i64 0) (.int .i64 0) (.bool true) 31
        rw [← hu, ← hB]
        clear hu hB
        have hbw := below_two hbw hbA
        have T1 := T1.next hbA
        have T2 := T2.next hbA
        have T3 := T3.next hbA
        have a1_0 := T1.c0
        have a1_1 := T1.c1
        have a1_2 := T1.c2
        have a1_3 := T1.c3
        have a1_4 := T1.c4
        have a1_5 := T1.c5
        have a1_6 := T1.c6
        have a1_7 := T1.c7
        have a1_8 := T1.c8
        have a1_9 := T1.c9
        have l1 := T1.lt
        have a2_0 := T2.c0
        have a2_1 := T2.c1
        have a2_2 := T2.c2
        have a2_3 := T2.c3
        have a2_4 := T2.c4
        have a2_5 := T2.c5
        have a2_6 := T2.c6
        have a2_7 := T2.c7
        have a2_8 := T2.c8
        have a2_9 := T2.c9
        have l2 := T2.lt
        have a3_0 := T3.c0
        have a3_1 := T3.c1
        have a3_2 := T3.c2
        have a3_3 := T3.c3
        have a3_4 := T3.c4
        have a3_5 := T3.c5
        have a3_6 := T3.c6
        have a3_7 := T3.c7
        have a3_8 := T3.c8
        have a3_9 := T3.c9
        have l3 := T3.lt
        have a5_0 := T5.c0
        have a5_1 := T5.c1
        have a5_2 := T5.c2
        have a5_3 := T5.c3
        have a5_4 := T5.c4
        have a5_5 := T5.c5
        have a5_6 := T5.c6
        have a5_7 := T5.c7
        have a5_8 := T5.c8
        have a5_9 := T5.c9
        have l5 := T5.lt
        go_upto_region 11 with (first
          | (go_at_call 26; refine (specNewCc_yes _ hk).mono ?_; rintro e w6 ⟨rfl, hb⟩; have hbw := below_two hbw hb; have T1 := T1.next hb; have T2 := T2.next hb; have T3 := T3.next hb; have T5 := T5.next hb; have a1_0 := T1.c0; have a1_1 := T1.c1; have a1_2 := T1.c2; have a1_3 := T1.c3; have a1_4 := T1.c4; have a1_5 := T1.c5; have a1_6 := T1.c6; have a1_7 := T1.c7; have a1_8 := T1.c8; have a1_9 := T1.c9; have l1 := T1.lt; have a2_0 := T2.c0; have a2_1 := T2.c1; have a2_2 := T2.c2; have a2_3 := T2.c3; have a2_4 := T2.c4; have a2_5 := T2.c5; have a2_6 := T2.c6; have a2_7 := T2.c7; have a2_8 := T2.c8; have a2_9 := T2.c9; have l2 := T2.lt; have a3_0 := T3.c0; have a3_1 := T3.c1; have a3_2 := T3.c2; have a3_3 := T3.c3; have a3_4 := T3.c4; have a3_5 := T3.c5; have a3_6 := T3.c6; have a3_7 := T3.c7; have a3_8 := T3.c8; have a3_9 := T3.c9; have l3 := T3.lt; have a5_0 := T5.c0; have a5_1 := T5.c1; have a5_2 := T5.c2; have a5_3 := T5.c3; have a5_4 := T5.c4; have a5_5 := T5.c5; have a5_6 := T5.c6; have a5_7 := T5.c7; have a5_8 := T5.c8; have a5_9 := T5.c9; have l5 := T5.lt))
        obtain ⟨u6, B6, hu, hB, T6, hbA⟩ := lay10 w6 (.int .i64 kk) (.int .i64 15000) (.int .i64 1000000000) (.int .i64 0) (.int .i64 0) (.int .i64 0) (.int .i64 0) (.int .i64 0) (.int .i64 0) (.bool true) 31
        rw [← hu, ← hB]
        clear hu hB
        have hbw := below_two hbw hbA
        have T1 := T1.next hbA
        have T2 := T2.next hbA
        have T3 := T3.next hbA
        have T5 := T5.next hbA
        have a1_0 := T1.c0
        have a1_1 := T1.c1
        have a1_2 := T1.c2
        have a1_3 := T1.c3
        have a1_4 := T1.c4
        have a1_5 := T1.c5
        have a1_6 := T1.c6
        have a1_7 := T1.c7
        have a1_8 := T1.c8
        have a1_9 := T1.c9
        have l1 := T1.lt
        have a2_0 := T2.c0
        have a2_1 := T2.c1
        have a2_2 := T2.c2
        have a2_3 := T2.c3
        have a2_4 := T2.c4
        have a2_5 := T2.c5
        have a2_6 := T2.c6
        have a2_7 := T2.c7
        have a2_8 := T2.c8
        have a2_9 := T2.c9
        have l2 := T2.lt
        have a3_0 := T3.c0
        have a3_1 := T3.c1
        have a3_2 := T3.c2
        have a3_3 := T3.c3
        have a3_4 := T3.c4
        have a3_5 := T3.c5
        have a3_6 := T3.c6
        have a3_7 := T3.c7
        have a3_8 := T3.c8
        have a3_9 := T3.c9
        have l3 := T3.lt
        have a5_0 := T5.c0
        have a5_1 := T5.c1
        have a5_2 := T5.c2
        have a5_3 := T5.c3
        have a5_4 := T5.c4
        have a5_5 := T5.c5
        have a5_6 := T5.c6
        have a5_7 := T5.c7
        have a5_8 := T5.c8
        have a5_9 := T5.c9
        have l5 := T5.lt
        have a6_0 := T6.c0
        have a6_1 := T6.c1
        have a6_2 := T6.c2
        have a6_3 := T6.c3
        have a6_4 := T6.c4
        have a6_5 := T6.c5
        have a6_6 := T6.c6
        have a6_7 := T6.c7
        have a6_8 := T6.c8
        have a6_9 := T6.c9
        have l6 := T6.lt
        go_wp2_with (first
          | fail)
        go_ret
        exact ⟨rfl, hbw⟩
    · have HSO : Hid (ccB k wn th (fl + n) ac la og st fr = true) := sent_ok hsent
      obtain ⟨_, hseg, hle⟩ := sent_num hsent
      obtain ⟨n0, n1⟩ := seg_num hseg
      have hcn := cc_num (sent_num hsent).1
      have fl0 := hcn.2.2.2.1
      have r1 : IntKind.i64.wrap (fl + n) = fl + n := by rw [IntKind.wrap_i64]; omega
      clear hseg hcn
      go_upto_region 5 with (first
        | (go_at_call 22; refine (implSent_t sl _ hsent).mono ?_; rintro e w2 ⟨rfl, hb⟩; have hbw := below_two hbw hb; have T1 := T1.next hb; have a1_0 := T1.c0; have a1_1 := T1.c1; have a1_2 := T1.c2; have a1_3 := T1.c3; have a1_4 := T1.c4; have a1_5 := T1.c5; have a1_6 := T1.c6; have a1_7 := T1.c7; have a1_8 := T1.c8; have a1_9 := T1.c9; have l1 := T1.lt))
      obtain ⟨u2, B2, hu, hB, T2, hbA⟩ := lay10 w2 (.int .i64 k) (.int .i64 wn) (.int .i64 th) (.int .i64 (fl + n)) (.int .i64 ac) (.int .i64 la) (.int .i64 og) (.int .i64 st) (.int .i64 fr) (.bool sl) 31
      rw [← hu, ← hB]
      clear hu hB
      have hbw := below_two hbw hbA
      have T1 := T1.next hbA
      have a1_0 := T1.c0
      have a1_1 := T1.c1
      have a1_2 := T1.c2
      have a1_3 := T1.c3
      have a1_4 := T1.c4
      have a1_5 := T1.c5
      have a1_6 := T1.c6
      have a1_7 := T1.c7
      have a1_8 := T1.c8
      have a1_9 := T1.c9
      have l1 := T1.lt
      have a2_0 := T2.c0
      have a2_1 := T2.c1
      have a2_2 := T2.c2
      have a2_3 := T2.c3
      have a2_4 := T2.c4
      have a2_5 := T2.c5
      have a2_6 := T2.c6
      have a2_7 := T2.c7
      have a2_8 := T2.c8
      have a2_9 := T2.c9
      have l2 := T2.lt
      go_upto_region 6 with (first
        | (go_at_call 23; refine (specSent_t sl _ hsent).mono ?_; rintro e w3 ⟨rfl, hb⟩; have hbw := below_two hbw hb; have T1 := T1.next hb; have T2 := T2.next hb; have a1_0 := T1.c0; have a1_1 := T1.c1; have a1_2 := T1.c2; have a1_3 := T1.c3; have a1_4 := T1.c4; have a1_5 := T1.c5; have a1_6 := T1.c6; have a1_7 := T1.c7; have a1_8 := T1.c8; have a1_9 := T1.c9; have l1 := T1.lt; have a2_0 := T2.c0; have a2_1 := T2.c1; have a2_2 := T2.c2; have a2_3 := T2.c3; have a2_4 := T2.c4; have a2_5 := T2.c5; have a2_6 := T2.c6; have a2_7 := T2.c7; have a2_8 := T2.c8; have a2_9 := T2.c9; have l2 := T2.lt))
      obtain ⟨u3, B3, hu, hB, T3, hbA⟩ := lay10 w3 (.int .i64 k) (.int .i64 wn) (.int .i64 th) (.int .i64 (fl + n)) (.int .i64 ac) (.int .i64 la) (.int .i64 og) (.int .i64 st) (.int .i64 fr) (.bool sl) 31
      rw [← hu, ← hB]
      clear hu hB
      have hbw := below_two hbw hbA
      have T1 := T1.next hbA
      have T2 := T2.next hbA
      have a1_0 := T1.c0
      have a1_1 := T1.c1
      have a1_2 := T1.c2
      have a1_3 := T1.c3
      have a1_4 := T1.c4
      have a1_5 := T1.c5
      have a1_6 := T1.c6
      have a1_7 := T1.c7
      have a1_8 := T1.c8
      have a1_9 := T1.c9
      have l1 := T1.lt
      have a2_0 := T2.c0
      have a2_1 := T2.c1
      have a2_2 := T2.c2
      have a2_3 := T2.c3
      have a2_4 := T2.c4
      have a2_5 := T2.c5
      have a2_6 := T2.c6
      have a2_7 := T2.c7
      have a2_8 := T2.c8
      have a2_9 := T2.c9
      have l2 := T2.lt
      have a3_0 := T3.c0
      have a3_1 := T3.c1
      have a3_2 := T3.c2
      have a3_3 := T3.c3
      have a3_4 := T3.c4
      have a3_5 := T3.c5
      have a3_6 := T3.c6
      have a3_7 := T3.c7
      have a3_8 := T3.c8
      have a3_9 := T3.c9
      have l3 := T3.lt
      go_upto_region 9 with (first
        | (go_at_call 24; refine (drawNewCc_any cap0 hs (row.mono hbw) hbw.size).mono ?_; rintro e w4 ⟨kk, rfl, hb⟩; have hbw := below_two hbw hb; have T1 := T1.next hb; have T2 := T2.next hb; have T3 := T3.next hb; have a1_0 := T1.c0; have a1_1 := T1.c1; have a1_2 := T1.c2; have a1_3 := T1.c3; have a1_4 := T1.c4; have a1_5 := T1.c5; have a1_6 := T1.c6; have a1_7 := T1.c7; have a1_8 := T1.c8; have a1_9 := T1.c9; have l1 := T1.lt; have a2_0 := T2.c0; have a2_1 := T2.c1; have a2_2 := T2.c2; have a2_3 := T2.c3; have a2_4 := T2.c4; have a2_5 := T2.c5; have a2_6 := T2.c6; have a2_7 := T2.c7; have a2_8 := T2.c8; have a2_9 := T2.c9; have l2 := T2.lt; have a3_0 := T3.c0; have a3_1 := T3.c1; have a3_2 := T3.c2; have a3_3 := T3.c3; have a3_4 := T3.c4; have a3_5 := T3.c5; have a3_6 := T3.c6; have a3_7 := T3.c7; have a3_8 := T3.c8; have a3_9 := T3.c9; have l3 := T3.lt))
      cases hk : kindB kk
      · go_upto_region 10 with (first
          | (go_at_call 25; refine (implNewCc_no _ hk).mono ?_; rintro e w5 ⟨rfl, hb⟩; have hbw := below_two hbw hb; have T1 := T1.next hb; have T2 := T2.next hb; have T3 := T3.next hb; have a1_0 := T1.c0; have a1_1 := T1.c1; have a1_2 := T1.c2; have a1_3 := T1.c3; have a1_4 := T1.c4; have a1_5 := T1.c5; have a1_6 := T1.c6; have a1_7 := T1.c7; have a1_8 := T1.c8; have a1_9 := T1.c9; have l1 := T1.lt; have a2_0 := T2.c0; have a2_1 := T2.c1; have a2_2 := T2.c2; have a2_3 := T2.c3; have a2_4 := T2.c4; have a2_5 := T2.c5; have a2_6 := T2.c6; have a2_7 := T2.c7; have a2_8 := T2.c8; have a2_9 := T2.c9; have l2 := T2.lt; have a3_0 := T3.c0; have a3_1 := T3.c1; have a3_2 := T3.c2; have a3_3 := T3.c3; have a3_4 := T3.c4; have a3_5 := T3.c5; have a3_6 := T3.c6; have a3_7 := T3.c7; have a3_8 := T3.c8; have a3_9 := T3.c9; have l3 := T3.lt))
        obtain ⟨u5, B5, hu, hB, T5, hbA⟩ := lay10 w5 (.int .i64 0) (.int .i64 0) (.int .i64 0) (.int .i64 0) (.int .i64 0) (.int .i64 0) (.int .i64 0) (.int .i64 0) (.int .i64 0) (.bool false) 31
        rw [← hu, ← hB]
        clear hu hB
        have hbw := below_two hbw hbA
        have T1 := T1.next hbA
        have T2 := T2.next hbA
        have T3 := T3.next hbA
        have a1_0 := T1.c0
        have a1_1 := T1.c1
        have a1_2 := T1.c2
        have a1_3 := T1.c3
        have a1_4 := T1.c4
        have a1_5 := T1.c5
        have a1_6 := T1.c6
        have a1_7 := T1.c7
        have a1_8 := T1.c8
        have a1_9 := T1.c9
        have l1 := T1.lt
        have a2_0 := T2.c0
        have a2_1 := T2.c1
        have a2_2 := T2.c2
        have a2_3 := T2.c3
        have a2_4 := T2.c4
        have a2_5 := T2.c5
        have a2_6 := T2.c6
        have a2_7 := T2.c7
        have a2_8 := T2.c8
        have a2_9 := T2.c9
        have l2 := T2.lt
        have a3_0 := T3.c0
        have a3_1 := T3.c1
        have a3_2 := T3.c2
        have a3_3 := T3.c3
        have a3_4 := T3.c4
        have a3_5 := T3.c5
        have a3_6 := T3.c6
        have a3_7 := T3.c7
        have a3_8 := T3.c8
        have a3_9 := T3.c9
        have l3 := T3.lt
        have a5_0 := T5.c0
        have a5_1 := T5.c1
        have a5_2 := T5.c2
        have a5_3 := T5.c3
        have a5_4 := T5.c4
        have a5_5 := T5.c5
        have a5_6 := T5.c6
        have a5_7 := T5.c7
        have a5_8 := T5.c8
        have a5_9 := T5.c9
        have l5 := T5.lt
        go_upto_region 11 with (first
          | (go_at_call 26; refine (specNewCc_no _ hk).mono ?_; rintro e w6 ⟨rfl, hb⟩; have hbw := below_two hbw hb; have T1 := T1.next hb; have T2 := T2.next hb; have T3 := T3.next hb; have T5 := T5.next hb; have a1_0 := T1.c0; have a1_1 := T1.c1; have a1_2 := T1.c2; have a1_3 := T1.c3; have a1_4 := T1.c4; have a1_5 := T1.c5; have a1_6 := T1.c6; have a1_7 := T1.c7; have a1_8 := T1.c8; have a1_9 := T1.c9; have l1 := T1.lt; have a2_0 := T2.c0; have a2_1 := T2.c1; have a2_2 := T2.c2; have a2_3 := T2.c3; have a2_4 := T2.c4; have a2_5 := T2.c5; have a2_6 := T2.c6; have a2_7 := T2.c7; have a2_8 := T2.c8; have a2_9 := T2.c9; have l2 := T2.lt; have a3_0 := T3.c0; have a3_1 := T3.c1; have a3_2 := T3.c2; have a3_3 := T3.c3; have a3_4 := T3.c4; have a3_5 := T3.c5; have a3_6 := T3.c6; have a3_7 := T3.c7; have a3_8 := T3.c8; have a3_9 := T3.c9; have l3 := T3.lt; have a5_0 := T5.c0; have a5_1 := T5.c1; have a5_2 := T5.c2; have a5_3 := T5.c3; have a5_4 := T5.c4; have a5_5 := T5.c5; have a5_6 := T5.c6; have a5_7 := T5.c7; have a5_8 := T5.c8; have a5_9 := T5.c9; have l5 := T5.lt))
        obtain ⟨u6, B6, hu, hB, T6, hbA⟩ := lay10 w6 (.int .i64 0) (.int .i64 0) (.int .i64 0) (.int .i64 0) (.int .i64 0) (.int .i64 0) (.int .i64 0) (.int .i64 0) (.int .i64 0) (.bool false) 31
        rw [← hu, ← hB]
        clear hu hB
        have hbw := below_two hbw hbA
        have T1 := T1.next hbA
        have T2 := T2.next hbA
        have T3 := T3.next hbA
        have T5 := T5.next hbA
        have a1_0 := T1.c0
        have a1_1 := T1.c1
        have a1_2 := T1.c2
        have a1_3 := T1.c3
        have a1_4 := T1.c4
        have a1_5 := T1.c5
        have a1_6 := T1.c6
        have a1_7 := T1.c7
        have a1_8 := T1.c8
        have a1_9 := T1.c9
        have l1 := T1.lt
        have a2_0 := T2.c0
        have a2_1 := T2.c1
        have a2_2 := T2.c2
        have a2_3 := T2.c3
        have a2_4 := T2.c4
        have a2_5 := T2.c5
        have a2_6 := T2.c6
        have a2_7 := T2.c7
        have a2_8 := T2.c8
        have a2_9 := T2.c9
        have l2 := T2.lt
        have a3_0 := T3.c0
        have a3_1 := T3.c1
        have a3_2 := T3.c2
        have a3_3 := T3.c3
        have a3_4 := T3.c4
        have a3_5 := T3.c5
        have a3_6 := T3.c6
        have a3_7 := T3.c7
        have a3_8 := T3.c8
        have a3_9 := T3.c9
        have l3 := T3.lt
        have a5_0 := T5.c0
        have a5_1 := T5.c1
        have a5_2 := T5.c2
        have a5_3 := T5.c3
        have a5_4 := T5.c4
        have a5_5 := T5.c5
        have a5_6 := T5.c6
        have a5_7 := T5.c7
        have a5_8 := T5.c8
        have a5_9 := T5.c9
        have l5 := T5.lt
        have a6_0 := T6.c0
        have a6_1 := T6.c1
        have a6_2 := T6.c2
        have a6_3 := T6.c3
        have a6_4 := T6.c4
        have a6_5 := T6.c5
        have a6_6 := T6.c6
        have a6_7 := T6.c7
        have a6_8 := T6.c8
        have a6_9 := T6.c9
        have l6 := T6.lt
        go_wp2_with (first
          | (go_at_call 19; refine (implCcOk_is HSO.out sl _).mono ?_; rintro e w7 ⟨rfl, rfl⟩; have k1st := HSO))
        go_ret
        exact ⟨rfl, below_two (x := u6) hbw (by go_grown)⟩
      · go_upto_region 10 with (first
          | (go_at_call 25; refine (implNewCc_yes _ hk).mono ?_; rintro e w5 ⟨rfl, hb⟩; have hbw := below_two hbw hb; have T1 := T1.next hb; have T2 := T2.next hb; have T3 := T3.next hb; have a1_0 := T1.c0; have a1_1 := T1.c1; have a1_2 := T1.c2; have a1_3 := T1.c3; have a1_4 := T1.c4; have a1_5 := T1.c5; have a1_6 := T1.c6; have a1_7 := T1.c7; have a1_8 := T1.c8; have a1_9 := T1.c9; have l1 := T1.lt; have a2_0 := T2.c0; have a2_1 := T2.c1; have a2_2 := T2.c2; have a2_3 := T2.c3; have a2_4 := T2.c4; have a2_5 := T2.c5; have a2_6 := T2.c6; have a2_7 := T2.c7; have a2_8 := T2.c8; have a2_9 := T2.c9; have l2 := T2.lt; have a3_0 := T3.c0; have a3_1 := T3.c1; have a3_2 := T3.c2; have a3_3 := T3.c3; have a3_4 := T3.c4; have a3_5 := T3.c5; have a3_6 := T3.c6; have a3_7 := T3.c7; have a3_8 := T3.c8; have a3_9 := T3.c9; have l3 := T3.lt))
        obtain ⟨u5, B5, hu, hB, T5, hbA⟩ := lay10 w5 (.int .i64 kk) (.int .i64 15000) (.int .i64 1000000000) (.int .i64 0) (.int .i64 0) (.int .i64 0) (.int .i64 0) (.int .i64 0) (.int .i64 0) (.bool true) 31
        rw [← hu, ← hB]
        clear hu hB
        have hbw := below_two hbw hbA
        have T1 := T1.next hbA
        have T2 := T2.next hbA
        have T3 := T3.next hbA
        have a1_0 := T1.c0
        have a1_1 := T1.c1
        have a1_2 := T1.c2
        have a1_3 := T1.c3
        have a1_4 := T1.c4
        have a1_5 := T1.c5
        have a1_6 := T1.c6
        have a1_7 := T1.c7
        have a1_8 := T1.c8
        have a1_9 := T1.c9
        have l1 := T1.lt
        have a2_0 := T2.c0
        have a2_1 := T2.c1
        have a2_2 := T2.c2
        have a2_3 := T2.c3
        have a2_4 := T2.c4
        have a2_5 := T2.c5
        have a2_6 := T2.c6
        have a2_7 := T2.c7
        have a2_8 := T2.c8
        have a2_9 := T2.c9
        have l2 := T2.lt
        have a3_0 := T3.c0
        have a3_1 := T3.c1
        have a3_2 := T3.c2
        have a3_3 := T3.c3
        have a3_4 := T3.c4
        have a3_5 := T3.c5
        have a3_6 := T3.c6
        have a3_7 := T3.c7
        have a3_8 := T3.c8
        have a3_9 := T3.c9
        have l3 := T3.lt
        have a5_0 := T5.c0
        have a5_1 := T5.c1
        have a5_2 := T5.c2
        have a5_3 := T5.c3
        have a5_4 := T5.c4
        have a5_5 := T5.c5
        have a5_6 := T5.c6
        have a5_7 := T5.c7
        have a5_8 := T5.c8
        have a5_9 := T5.c9
        have l5 := T5.lt
        go_upto_region 11 with (first
          | (go_at_call 26; refine (specNewCc_yes _ hk).mono ?_; rintro e w6 ⟨rfl, hb⟩; have hbw := below_two hbw hb; have T1 := T1.next hb; have T2 := T2.next hb; have T3 := T3.next hb; have T5 := T5.next hb; have a1_0 := T1.c0; have a1_1 := T1.c1; have a1_2 := T1.c2; have a1_3 := T1.c3; have a1_4 := T1.c4; have a1_5 := T1.c5; have a1_6 := T1.c6; have a1_7 := T1.c7; have a1_8 := T1.c8; have a1_9 := T1.c9; have l1 := T1.lt; have a2_0 := T2.c0; have a2_1 := T2.c1; have a2_2 := T2.c2; have a2_3 := T2.c3; have a2_4 := T2.c4; have a2_5 := T2.c5; have a2_6 := T2.c6; have a2_7 := T2.c7; have a2_8 := T2.c8; have a2_9 := T2.c9; have l2 := T2.lt; have a3_0 := T3.c0; have a3_1 := T3.c1; have a3_2 := T3.c2; have a3_3 := T3.c3; have a3_4 := T3.c4; have a3_5 := T3.c5; have a3_6 := T3.c6; have a3_7 := T3.c7; have a3_8 := T3.c8; have a3_9 := T3.c9; have l3 := T3.lt; have a5_0 := T5.c0; have a5_1 := T5.c1; have a5_2 := T5.c2; have a5_3 := T5.c3; have a5_4 := T5.c4; have a5_5 := T5.c5; have a5_6 := T5.c6; have a5_7 := T5.c7; have a5_8 := T5.c8; have a5_9 := T5.c9; have l5 := T5.lt))
        obtain ⟨u6, B6, hu, hB, T6, hbA⟩ := lay10 w6 (.int .i64 kk) (.int .i64 15000) (.int .i64 1000000000) (.int .i64 0) (.int .i64 0) (.int .i64 0) (.int .i64 0) (.int .i64 0) (.int .i64 0) (.bool true) 31
        rw [← hu, ← hB]
        clear hu hB
        have hbw := below_two hbw hbA
        have T1 := T1.next hbA
        have T2 := T2.next hbA
        have T3 := T3.next hbA
        have T5 := T5.next hbA
        have a1_0 := T1.c0
        have a1_1 := T1.c1
        have a1_2 := T1.c2
        have a1_3 := T1.c3
        have a1_4 := T1.c4
        have a1_5 := T1.c5
        have a1_6 := T1.c6
        have a1_7 := T1.c7
        have a1_8 := T1.c8
        have a1_9 := T1.c9
        have l1 := T1.lt
        have a2_0 := T2.c0
        have a2_1 := T2.c1
        have a2_2 := T2.c2
        have a2_3 := T2.c3
        have a2_4 := T2.c4
        have a2_5 := T2.c5
        have a2_6 := T2.c6
        have a2_7 := T2.c7
        have a2_8 := T2.c8
        have a2_9 := T2.c9
        have l2 := T2.lt
        have a3_0 := T3.c0
        have a3_1 := T3.c1
        have a3_2 := T3.c2
        have a3_3 := T3.c3
        have a3_4 := T3.c4
        have a3_5 := T3.c5
        have a3_6 := T3.c6
        have a3_7 := T3.c7
        have a3_8 := T3.c8
        have a3_9 := T3.c9
        have l3 := T3.lt
        have a5_0 := T5.c0
        have a5_1 := T5.c1
        have a5_2 := T5.c2
        have a5_3 := T5.c3
        have a5_4 := T5.c4
        have a5_5 := T5.c5
        have a5_6 := T5.c6
        have a5_7 := T5.c7
        have a5_8 := T5.c8
        have a5_9 := T5.c9
        have l5 := T5.lt
        have a6_0 := T6.c0
        have a6_1 := T6.c1
        have a6_2 := T6.c2
        have a6_3 := T6.c3
        have a6_4 := T6.c4
        have a6_5 := T6.c5
        have a6_6 := T6.c6
        have a6_7 := T6.c7
        have a6_8 := T6.c8
        have a6_9 := T6.c9
        have l6 := T6.lt
        go_wp2_with (first
          | (go_at_call 19; have g1 := k1st; refine (implCcOk_is (new_ok hk) true _).mono ?_; rintro e w7 ⟨rfl, rfl⟩)
          | (go_at_call 19; refine (implCcOk_is HSO.out sl _).mono ?_; rintro e w7 ⟨rfl, rfl⟩; have k1st := HSO))
        go_ret
        exact ⟨rfl, below_two (x := u6) hbw (by go_grown)⟩
  · go_enter Try.func5, Try.ntmps5
    have hs' : (4096 : Int) < (len0 : Int) := by omega
    go_wp2_with (first | go_in)
    go_ret
    exact ⟨rfl, Below.refl _ _⟩

/-! ### THE ROW's STEP: WRITTEN OUT: LEAVE IT -/
set_option maxRecDepth 100000 in
theorem lifted (os : Os) (started : os.Started) (H : Type) (enc : TypeId × Value → H) :
    ReturnsInHanded {} Try.checked os 5 .any (Rows.fnSentOutSpec.pre6 enc Try.prog Try.f5 Rows.fnSentOutRow.domain false) (Rows.fnSentOutSpec.post enc Try.prog Try.f5 false true false false) := by
  refine returnsInHanded_of_change (C := Try.checked) own started (by kernel_rfl) Try.func5
    (ChangeSpec.witness6 (enc := enc) (C := Try.checked) false ⟨#[], #[.slice none 0 0], []⟩ 8 (by kernel_rfl) (by kernel_rfl) (by kernel_rfl) (by kernel_rfl)) ?_
  intro W base args ds gs before hval0 hW hcnd _
  have hval : ∀ (j : Nat) t v, Try.f5.params[j]? = some t → args[j]? = some v → Value.okWide Try.prog W .any base t v := hval0
  have hW' := hW
  obtain ⟨p, q, hA0, hV, rfl, hfz, hnd⟩ := hW
  have hA : DataW.TrodAll enc Try.prog W 0 (fun _ => true) true Try.f5.params.toList args.toList ds p := hA0
  rw [Try.params5] at hA hval
  obtain ⟨v0, vs0, d0, ds0, p0, q0, hargs, rfl, rfl, h0, r0⟩ := trodAll_cons hA
  obtain ⟨rfl, rfl, rfl⟩ := trodAll_nil r0
  obtain rfl : args = #[v0] := by cases args; simp_all
  obtain ⟨rfl, rfl⟩ := trodVars_none hV
  obtain ⟨a0, len0, cap0, rfl⟩ := okWide_slice Try.underlying22 (hval 0 22 v0 rfl rfl)
  have k0 := h0
  have lt0 : ∀ x ∈ p0, x.block < W.heap.size := by obtain ⟨m, hm⟩ := k0; exact DataW.trod_lt m _ _ _ hm
  obtain ⟨z0, w0⟩ : ∃ zs, IsRow .u8 W a0 len0 cap0 zs := by
    obtain ⟨fuel, hf⟩ := h0
    rcases open_ints Try.underlying22 Try.underlying5 (by kernel_rfl) hf with ⟨hcs, _⟩ | ⟨x, l, c, zs, hcs, _, hl, hm, hz, _, hcell, hwz⟩
    · simp [Value.cells] at hcs
      obtain ⟨rfl, rfl, rfl⟩ := hcs
      exact ⟨[], .inl ⟨rfl, rfl, rfl, rfl⟩⟩
    · simp [Value.cells] at hcs
      obtain ⟨rfl, rfl, rfl⟩ := hcs
      exact ⟨zs, .inr ⟨_, rfl, hl, hm, by simpa using hz, hcell, hwz⟩⟩
  clear hA0 hval0
  refine (walk a0 len0 cap0 z0 W w0).mono fun e W' ⟨he, bel⟩ => ?_
  subst he
  exact ⟨_, rfl, _, _, _, [], _, [], hW', trodAll_mk1 (shut_bool Try.underlying4 _), (trodAll_cons_mk (Below.trod laidOut (by kernel_rfl) (of_decide_eq_true (by kernel_rfl)) k0 bel lt0) trodAll_mk0), rfl, bel.frame _, fun h => by cases h⟩

theorem over : Rows.fnSentOutRow.holds Try.pinned (OpenSpec.ofChange Rows.fnSentOutSpec) :=
  OpenClaim.holds_of_wide 5 Try.f5 rfl rfl rfl rfl rfl rfl rfl ⟨rfl, rfl, rfl, rfl, rfl⟩ rfl rfl rfl rfl rfl (by kernel_rfl) Try.func5 (by kernel_rfl)
    (of_decide_eq_true (by kernel_rfl)) (by unfold Func.isWrapper; first | (rw [if_pos (by decide +kernel)]; kernel_rfl) | (rw [if_neg (by decide +kernel)]; exact ⟨rfl, rfl⟩))
    (fun os started H enc _ => lifted os started H enc)

/-- ████ THE STATEMENT ████ -/
theorem proved : Rows.FnSentOutSaid := over
#print axioms proved
end Go.Proofs.Ytkfbkneeabpkjae.fnSentOut
namespace Go.Proofs.Ytkfbkneeabpkjae
theorem fnSentOut_holds : Rows.FnSentOutSaid := fnSentOut.proved
#print axioms fnSentOut_holds
end Go.Proofs.Ytkfbkneeabpkjae
