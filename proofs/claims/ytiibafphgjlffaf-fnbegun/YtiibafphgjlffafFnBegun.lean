/- Proved: whatever the bytes, the law FnBegun returns true (at the time that the model draws of them impl.NewProbe answers as spec.NewProbe does; a Probe that is told is right, its gain 289, its pace 0, its cap four segments), and the bytes read as before; no condition. -/
import Derived.Test.YtiibafphgjlffafRows
import Derived.WalkKit
import Derived.ProofKit
import Derived.OpenShut
import Derived.ShutString
import Derived.ChangeOld
import Derived.Below
import Derived.Test.YtiibafphgjlffafDraw12d
import Derived.Test.YtiibafphgjlffafDrawLevel
import Derived.Test.YtiibafphgjlffafLikePrb
import Derived.Test.YtiibafphgjlffafImplProbe
namespace Go.Proofs.Ytiibafphgjlffaf.fnBegun
open Go.ChangeShapes Go.WideShapes Go.ChangeAt Go.RowKit
open Go.ChangeMaps (open_string shut_string)
set_option linter.unusedVariables false

theorem own : ownKnob Try.prog.godebug = none := by kernel_rfl
theorem laidOut : laidOutB Try.prog = true := by kernel_rfl

/-- WHAT THE WALK IS TOLD OF A SLICE OF INTEGERS THAT CAME IN: it is nil; or it leads to a row of 'cap' cells, the numbers 'zs' (the first 'len' are its elements, the rest its spare room), each fitting its kind. -/
def IsRow (k : IntKind) (w : World) (a : Option Addr) (len cap : Nat) (zs : List Int) : Prop :=
  (a = none ∧ len = 0 ∧ cap = 0 ∧ zs = []) ∨
  ∃ x, a = some x ∧ len ≤ cap ∧ cap ≤ maxLen ∧ zs.length = cap ∧ (∀ i, i < zs.length → w.cell? (x.add i) = some (.int k (zs.getD i 0))) ∧ ∀ n ∈ zs, (Lit.int k n).wf = true

set_option linter.unusedSimpArgs false
set_option linter.unusedVariables false
set_option maxRecDepth 100000
theorem row_of {w : World} {a : Option Addr} {len cap : Nat} {zs : List Int} (h : IsRow .u8 w a len cap zs) : Row w.heap.size a len w := by
  intro i hi
  rcases h with ⟨rfl, rfl, rfl, rfl⟩ | ⟨x, rfl, hl, hm, hz, hcell, hwz⟩
  · omega
  · obtain ⟨b, off, spot⟩ := x
    have hspot : spot = none := by simpa [Addr.add] using World.cell?_spot (hcell 0 (by omega))
    subst hspot
    have hc := hcell i (by omega)
    have hc' : w.cell? ⟨b, off + i, none⟩ = some (.int .u8 (zs.getD i 0)) := by
      by_cases h0 : i = 0
      · subst h0; simpa [Addr.add] using hc
      · simpa [Addr.add, h0] using hc
    have hlt : i < zs.length := by omega
    have hm : zs.getD i 0 ∈ zs := by simp [List.getD, List.getElem?_eq_getElem hlt]
    obtain ⟨z0, z1⟩ := bounds_u8 (hwz _ hm)
    exact ⟨b, off, zs.getD i 0, rfl, World.block_lt_of_cell? w _ hc', hc', z0, z1⟩
open Classical in
theorem begun_pok {t : Int} (h : timeB t = true) : pokB 1 0 t 0 0 0 t [] = true := by
  have hf : filB [] = true := by
    unfold filB
    exact decide_eq_true ⟨by decide, fun i h => by cases h⟩
  unfold pokB
  rw [hf, h]
  decide
theorem begun_pace : min 1000000000000 (bestOf [] * gainOf 1 0 / 100) = 0 := by decide
theorem begun_cap : min 1000000000 (max 6000 (2 * bytesOf (bestOf []) 0)) = 6000 := by
  rw [show bestOf [] = 0 from rfl, bytes_in (by decide) (by decide) (by decide) (by decide)]
  decide

/-! ### STEP 1: THE WALK: the Go text returns true, AND WRITES NOTHING THAT WAS THERE: 'Below w.heap.size w w'' (Derived/Below.lean: '.refl', '.alloc', '.drew', '.setCell' at a new block, '.trans'). Open each 'IsRow' by 'rcases' AHEAD of 'go_enter'; part every test ahead of the walk. -/
set_option maxHeartbeats 8000000 in
theorem walk (a0 : Option Addr) (len0 cap0 : Nat) (z0 : List Int) (w : World) (w0 : IsRow .u8 w a0 len0 cap0 z0) :
    Calls Try.prog 3 #[.slice a0 len0 cap0] w fun e w' => e = .returned (.bool true) ∧ Below w.heap.size w w' := by
  have row := row_of w0
  by_cases hs : len0 ≤ 4096
  · go_enter Try.func3, Try.ntmps3
    go_upto_region 4 with (first
      | (go_at_call 5; refine (drawNewProbe_any cap0 hs row (Nat.le_refl _)).mono ?_; rintro e v1 ⟨at0, rfl, hat, hbw⟩)
      | go_in)
    cases hT : timeB at0
    · go_upto_region 5 with (first
        | (go_at_call 6; refine (implNewProbe_no _ hT).mono ?_; rintro e v2 ⟨rfl, hb2⟩; have hbw : Below w.heap.size w v2 := below_two hbw hb2))
      obtain ⟨v3, hv3⟩ : ∃ x, x = v2.alloc (.cells #[.int .i64 0, .int .i64 0, .int .i64 0, .int .i64 0, .int .i64 0, .slice none 0 0, .int .i64 0, .int .i64 0] 29) := ⟨_, rfl⟩
      obtain ⟨b4, eb4⟩ : ∃ b, b = v2.heap.size := ⟨_, rfl⟩
      rw [← hv3, ← eb4]
      have yb4 : v2.heap.size ≤ b4 := by omega
      have ub4 : b4 < v3.heap.size := by rw [hv3, eb4]; simp
      have kv3 : Below v2.heap.size v2 v3 := by rw [hv3]; exact new_below _ _
      have DA : Hid (Pc v3 (b4) (⟨0, 0, 0, 0, 0, 0, 0⟩ : Pb) (.slice none 0 0)) := by rw [hv3, eb4]; exact pc_new _ (⟨0, 0, 0, 0, 0, 0, 0⟩ : Pb) _ _
      clear hv3 eb4
      have hbw : Below w.heap.size w v3 := below_two hbw kv3
      have q0 : v3.cell? ⟨b4, 0, none⟩ = some (.int .i64 0) := DA.out.c0
      have q1 : v3.cell? ⟨b4, 1, none⟩ = some (.int .i64 0) := DA.out.c1
      have q2 : v3.cell? ⟨b4, 2, none⟩ = some (.int .i64 0) := DA.out.c2
      have q3 : v3.cell? ⟨b4, 3, none⟩ = some (.int .i64 0) := DA.out.c3
      have q4 : v3.cell? ⟨b4, 4, none⟩ = some (.int .i64 0) := DA.out.c4
      have q5 : v3.cell? ⟨b4, 5, none⟩ = some (.slice none 0 0) := DA.out.c5
      have q6 : v3.cell? ⟨b4, 6, none⟩ = some (.int .i64 0) := DA.out.c6
      have q7 : v3.cell? ⟨b4, 7, none⟩ = some (.int .i64 0) := DA.out.c7
      go_upto_region 6 with (first
        | (go_at_call 7; refine (specNewProbe_no _ hT).mono ?_; rintro e v4 ⟨rfl, hb4⟩; have hbw : Below w.heap.size w v4 := below_two hbw hb4; clear q0 q1 q2 q3 q4 q5 q6 q7; have DA : Hid (Pc v4 (b4) (⟨0, 0, 0, 0, 0, 0, 0⟩ : Pb) (.slice none 0 0)) := DA.out.next hb4; have q0 : v4.cell? ⟨b4, 0, none⟩ = some (.int .i64 0) := DA.out.c0; have q1 : v4.cell? ⟨b4, 1, none⟩ = some (.int .i64 0) := DA.out.c1; have q2 : v4.cell? ⟨b4, 2, none⟩ = some (.int .i64 0) := DA.out.c2; have q3 : v4.cell? ⟨b4, 3, none⟩ = some (.int .i64 0) := DA.out.c3; have q4 : v4.cell? ⟨b4, 4, none⟩ = some (.int .i64 0) := DA.out.c4; have q5 : v4.cell? ⟨b4, 5, none⟩ = some (.slice none 0 0) := DA.out.c5; have q6 : v4.cell? ⟨b4, 6, none⟩ = some (.int .i64 0) := DA.out.c6; have q7 : v4.cell? ⟨b4, 7, none⟩ = some (.int .i64 0) := DA.out.c7))
      obtain ⟨v5, hv5⟩ : ∃ x, x = v4.alloc (.cells #[.int .i64 0, .int .i64 0, .int .i64 0, .int .i64 0, .int .i64 0, .slice none 0 0, .int .i64 0, .int .i64 0] 29) := ⟨_, rfl⟩
      obtain ⟨b6, eb6⟩ : ∃ b, b = v4.heap.size := ⟨_, rfl⟩
      rw [← hv5, ← eb6]
      have yb6 : v4.heap.size ≤ b6 := by omega
      have ub6 : b6 < v5.heap.size := by rw [hv5, eb6]; simp
      have kv5 : Below v4.heap.size v4 v5 := by rw [hv5]; exact new_below _ _
      have DG : Hid (Pc v5 (b6) (⟨0, 0, 0, 0, 0, 0, 0⟩ : Pb) (.slice none 0 0)) := by rw [hv5, eb6]; exact pc_new _ (⟨0, 0, 0, 0, 0, 0, 0⟩ : Pb) _ _
      clear hv5 eb6
      have hbw : Below w.heap.size w v5 := below_two hbw kv5; clear q0 q1 q2 q3 q4 q5 q6 q7
      have DA : Hid (Pc v5 (b4) (⟨0, 0, 0, 0, 0, 0, 0⟩ : Pb) (.slice none 0 0)) := DA.out.next kv5
      have q0 : v5.cell? ⟨b4, 0, none⟩ = some (.int .i64 0) := DA.out.c0
      have q1 : v5.cell? ⟨b4, 1, none⟩ = some (.int .i64 0) := DA.out.c1
      have q2 : v5.cell? ⟨b4, 2, none⟩ = some (.int .i64 0) := DA.out.c2
      have q3 : v5.cell? ⟨b4, 3, none⟩ = some (.int .i64 0) := DA.out.c3
      have q4 : v5.cell? ⟨b4, 4, none⟩ = some (.int .i64 0) := DA.out.c4
      have q5 : v5.cell? ⟨b4, 5, none⟩ = some (.slice none 0 0) := DA.out.c5
      have q6 : v5.cell? ⟨b4, 6, none⟩ = some (.int .i64 0) := DA.out.c6
      have q7 : v5.cell? ⟨b4, 7, none⟩ = some (.int .i64 0) := DA.out.c7
      have g0 : v5.cell? ⟨b6, 0, none⟩ = some (.int .i64 0) := DG.out.c0
      have g1 : v5.cell? ⟨b6, 1, none⟩ = some (.int .i64 0) := DG.out.c1
      have g2 : v5.cell? ⟨b6, 2, none⟩ = some (.int .i64 0) := DG.out.c2
      have g3 : v5.cell? ⟨b6, 3, none⟩ = some (.int .i64 0) := DG.out.c3
      have g4 : v5.cell? ⟨b6, 4, none⟩ = some (.int .i64 0) := DG.out.c4
      have g5 : v5.cell? ⟨b6, 5, none⟩ = some (.slice none 0 0) := DG.out.c5
      have g6 : v5.cell? ⟨b6, 6, none⟩ = some (.int .i64 0) := DG.out.c6
      have g7 : v5.cell? ⟨b6, 7, none⟩ = some (.int .i64 0) := DG.out.c7
      go_wp2_with (first
        | (go_at_call 8; have g1 := mk1; refine (likeProbe_same (show FV _ 0 (.slice none 0 0) [] from .inr ⟨rfl, rfl⟩) (show FV _ 0 (.slice none 0 0) [] from .inr ⟨rfl, rfl⟩) (by decide)).mono ?_; rintro e v7 ⟨rfl, hb7⟩; have hbw : Below w.heap.size w v7 := below_two hbw hb7; clear q0 q1 q2 q3 q4 q5 q6 q7; have DA : Hid (Pc v7 (b4) (⟨0, 0, 0, 0, 0, 0, 0⟩ : Pb) (.slice none 0 0)) := DA.out.next hb7; have q0 : v7.cell? ⟨b4, 0, none⟩ = some (.int .i64 0) := DA.out.c0; have q1 : v7.cell? ⟨b4, 1, none⟩ = some (.int .i64 0) := DA.out.c1; have q2 : v7.cell? ⟨b4, 2, none⟩ = some (.int .i64 0) := DA.out.c2; have q3 : v7.cell? ⟨b4, 3, none⟩ = some (.int .i64 0) := DA.out.c3; have q4 : v7.cell? ⟨b4, 4, none⟩ = some (.int .i64 0) := DA.out.c4; have q5 : v7.cell? ⟨b4, 5, none⟩ = some (.slice none 0 0) := DA.out.c5; have q6 : v7.cell? ⟨b4, 6, none⟩ = some (.int .i64 0) := DA.out.c6; have q7 : v7.cell? ⟨b4, 7, none⟩ = some (.int .i64 0) := DA.out.c7)
        | (go_at_call 8; refine (likeProbe_same (show FV _ 0 (.slice none 0 0) [] from .inr ⟨rfl, rfl⟩) (show FV _ 0 (.slice none 0 0) [] from .inr ⟨rfl, rfl⟩) (by decide)).mono ?_; rintro e v6 ⟨rfl, hb6⟩; have hbw : Below w.heap.size w v6 := below_two hbw hb6; clear q0 q1 q2 q3 q4 q5 q6 q7; have DA : Hid (Pc v6 (b4) (⟨0, 0, 0, 0, 0, 0, 0⟩ : Pb) (.slice none 0 0)) := DA.out.next hb6; have q0 : v6.cell? ⟨b4, 0, none⟩ = some (.int .i64 0) := DA.out.c0; have q1 : v6.cell? ⟨b4, 1, none⟩ = some (.int .i64 0) := DA.out.c1; have q2 : v6.cell? ⟨b4, 2, none⟩ = some (.int .i64 0) := DA.out.c2; have q3 : v6.cell? ⟨b4, 3, none⟩ = some (.int .i64 0) := DA.out.c3; have q4 : v6.cell? ⟨b4, 4, none⟩ = some (.int .i64 0) := DA.out.c4; have q5 : v6.cell? ⟨b4, 5, none⟩ = some (.slice none 0 0) := DA.out.c5; have q6 : v6.cell? ⟨b4, 6, none⟩ = some (.int .i64 0) := DA.out.c6; have q7 : v6.cell? ⟨b4, 7, none⟩ = some (.int .i64 0) := DA.out.c7; have mk1 : True := trivial))
      go_ret
      exact ⟨rfl, hbw⟩
    have hpk := begun_pok hT
    go_upto_region 5 with (first
      | (go_at_call 6; refine (implNewProbe_yes _ hT).mono ?_; rintro e v2 ⟨rfl, hb2⟩; have hbw : Below w.heap.size w v2 := below_two hbw hb2))
    obtain ⟨v3, hv3⟩ : ∃ x, x = v2.alloc (.cells #[.int .i64 1, .int .i64 0, .int .i64 at0, .int .i64 0, .int .i64 0, .slice none 0 0, .int .i64 0, .int .i64 at0] 29) := ⟨_, rfl⟩
    obtain ⟨b4, eb4⟩ : ∃ b, b = v2.heap.size := ⟨_, rfl⟩
    rw [← hv3, ← eb4]
    have yb4 : v2.heap.size ≤ b4 := by omega
    have ub4 : b4 < v3.heap.size := by rw [hv3, eb4]; simp
    have kv3 : Below v2.heap.size v2 v3 := by rw [hv3]; exact new_below _ _
    have DA : Hid (Pc v3 (b4) (⟨1, 0, at0, 0, 0, 0, at0⟩ : Pb) (.slice none 0 0)) := by rw [hv3, eb4]; exact pc_new _ (⟨1, 0, at0, 0, 0, 0, at0⟩ : Pb) _ _
    clear hv3 eb4
    have hbw : Below w.heap.size w v3 := below_two hbw kv3
    have q0 : v3.cell? ⟨b4, 0, none⟩ = some (.int .i64 1) := DA.out.c0
    have q1 : v3.cell? ⟨b4, 1, none⟩ = some (.int .i64 0) := DA.out.c1
    have q2 : v3.cell? ⟨b4, 2, none⟩ = some (.int .i64 at0) := DA.out.c2
    have q3 : v3.cell? ⟨b4, 3, none⟩ = some (.int .i64 0) := DA.out.c3
    have q4 : v3.cell? ⟨b4, 4, none⟩ = some (.int .i64 0) := DA.out.c4
    have q5 : v3.cell? ⟨b4, 5, none⟩ = some (.slice none 0 0) := DA.out.c5
    have q6 : v3.cell? ⟨b4, 6, none⟩ = some (.int .i64 0) := DA.out.c6
    have q7 : v3.cell? ⟨b4, 7, none⟩ = some (.int .i64 at0) := DA.out.c7
    go_upto_region 6 with (first
      | (go_at_call 7; refine (specNewProbe_yes _ hT).mono ?_; rintro e v4 ⟨rfl, hb4⟩; have hbw : Below w.heap.size w v4 := below_two hbw hb4; clear q0 q1 q2 q3 q4 q5 q6 q7; have DA : Hid (Pc v4 (b4) (⟨1, 0, at0, 0, 0, 0, at0⟩ : Pb) (.slice none 0 0)) := DA.out.next hb4; have q0 : v4.cell? ⟨b4, 0, none⟩ = some (.int .i64 1) := DA.out.c0; have q1 : v4.cell? ⟨b4, 1, none⟩ = some (.int .i64 0) := DA.out.c1; have q2 : v4.cell? ⟨b4, 2, none⟩ = some (.int .i64 at0) := DA.out.c2; have q3 : v4.cell? ⟨b4, 3, none⟩ = some (.int .i64 0) := DA.out.c3; have q4 : v4.cell? ⟨b4, 4, none⟩ = some (.int .i64 0) := DA.out.c4; have q5 : v4.cell? ⟨b4, 5, none⟩ = some (.slice none 0 0) := DA.out.c5; have q6 : v4.cell? ⟨b4, 6, none⟩ = some (.int .i64 0) := DA.out.c6; have q7 : v4.cell? ⟨b4, 7, none⟩ = some (.int .i64 at0) := DA.out.c7))
    obtain ⟨v5, hv5⟩ : ∃ x, x = v4.alloc (.cells #[.int .i64 1, .int .i64 0, .int .i64 at0, .int .i64 0, .int .i64 0, .slice none 0 0, .int .i64 0, .int .i64 at0] 29) := ⟨_, rfl⟩
    obtain ⟨b6, eb6⟩ : ∃ b, b = v4.heap.size := ⟨_, rfl⟩
    rw [← hv5, ← eb6]
    have yb6 : v4.heap.size ≤ b6 := by omega
    have ub6 : b6 < v5.heap.size := by rw [hv5, eb6]; simp
    have kv5 : Below v4.heap.size v4 v5 := by rw [hv5]; exact new_below _ _
    have DG : Hid (Pc v5 (b6) (⟨1, 0, at0, 0, 0, 0, at0⟩ : Pb) (.slice none 0 0)) := by rw [hv5, eb6]; exact pc_new _ (⟨1, 0, at0, 0, 0, 0, at0⟩ : Pb) _ _
    clear hv5 eb6
    have hbw : Below w.heap.size w v5 := below_two hbw kv5; clear q0 q1 q2 q3 q4 q5 q6 q7
    have DA : Hid (Pc v5 (b4) (⟨1, 0, at0, 0, 0, 0, at0⟩ : Pb) (.slice none 0 0)) := DA.out.next kv5
    have q0 : v5.cell? ⟨b4, 0, none⟩ = some (.int .i64 1) := DA.out.c0
    have q1 : v5.cell? ⟨b4, 1, none⟩ = some (.int .i64 0) := DA.out.c1
    have q2 : v5.cell? ⟨b4, 2, none⟩ = some (.int .i64 at0) := DA.out.c2
    have q3 : v5.cell? ⟨b4, 3, none⟩ = some (.int .i64 0) := DA.out.c3
    have q4 : v5.cell? ⟨b4, 4, none⟩ = some (.int .i64 0) := DA.out.c4
    have q5 : v5.cell? ⟨b4, 5, none⟩ = some (.slice none 0 0) := DA.out.c5
    have q6 : v5.cell? ⟨b4, 6, none⟩ = some (.int .i64 0) := DA.out.c6
    have q7 : v5.cell? ⟨b4, 7, none⟩ = some (.int .i64 at0) := DA.out.c7
    have g0 : v5.cell? ⟨b6, 0, none⟩ = some (.int .i64 1) := DG.out.c0
    have g1 : v5.cell? ⟨b6, 1, none⟩ = some (.int .i64 0) := DG.out.c1
    have g2 : v5.cell? ⟨b6, 2, none⟩ = some (.int .i64 at0) := DG.out.c2
    have g3 : v5.cell? ⟨b6, 3, none⟩ = some (.int .i64 0) := DG.out.c3
    have g4 : v5.cell? ⟨b6, 4, none⟩ = some (.int .i64 0) := DG.out.c4
    have g5 : v5.cell? ⟨b6, 5, none⟩ = some (.slice none 0 0) := DG.out.c5
    have g6 : v5.cell? ⟨b6, 6, none⟩ = some (.int .i64 0) := DG.out.c6
    have g7 : v5.cell? ⟨b6, 7, none⟩ = some (.int .i64 at0) := DG.out.c7
    go_wp2_with (first
      | (go_at_call 8; refine (likeProbe_same (show FV _ 0 (.slice none 0 0) [] from .inr ⟨rfl, rfl⟩) (show FV _ 0 (.slice none 0 0) [] from .inr ⟨rfl, rfl⟩) (by decide)).mono ?_; rintro e v6 ⟨rfl, hb6⟩; have hbw : Below w.heap.size w v6 := below_two hbw hb6; clear q0 q1 q2 q3 q4 q5 q6 q7; have DA : Hid (Pc v6 (b4) (⟨1, 0, at0, 0, 0, 0, at0⟩ : Pb) (.slice none 0 0)) := DA.out.next hb6; have q0 : v6.cell? ⟨b4, 0, none⟩ = some (.int .i64 1) := DA.out.c0; have q1 : v6.cell? ⟨b4, 1, none⟩ = some (.int .i64 0) := DA.out.c1; have q2 : v6.cell? ⟨b4, 2, none⟩ = some (.int .i64 at0) := DA.out.c2; have q3 : v6.cell? ⟨b4, 3, none⟩ = some (.int .i64 0) := DA.out.c3; have q4 : v6.cell? ⟨b4, 4, none⟩ = some (.int .i64 0) := DA.out.c4; have q5 : v6.cell? ⟨b4, 5, none⟩ = some (.slice none 0 0) := DA.out.c5; have q6 : v6.cell? ⟨b4, 6, none⟩ = some (.int .i64 0) := DA.out.c6; have q7 : v6.cell? ⟨b4, 7, none⟩ = some (.int .i64 at0) := DA.out.c7)
      | (go_at_call 9; refine (implProbeOk_is (xs := []) 0 hpk (show Smp _ _ none [] from fun i h => by cases h)).mono ?_; rintro e v8 ⟨rfl, hb8⟩; have hbw : Below w.heap.size w v8 := below_two hbw hb8; clear q0 q1 q2 q3 q4 q5 q6 q7; have DA : Hid (Pc v8 (b4) (⟨1, 0, at0, 0, 0, 0, at0⟩ : Pb) (.slice none 0 0)) := DA.out.next hb8; have q0 : v8.cell? ⟨b4, 0, none⟩ = some (.int .i64 1) := DA.out.c0; have q1 : v8.cell? ⟨b4, 1, none⟩ = some (.int .i64 0) := DA.out.c1; have q2 : v8.cell? ⟨b4, 2, none⟩ = some (.int .i64 at0) := DA.out.c2; have q3 : v8.cell? ⟨b4, 3, none⟩ = some (.int .i64 0) := DA.out.c3; have q4 : v8.cell? ⟨b4, 4, none⟩ = some (.int .i64 0) := DA.out.c4; have q5 : v8.cell? ⟨b4, 5, none⟩ = some (.slice none 0 0) := DA.out.c5; have q6 : v8.cell? ⟨b4, 6, none⟩ = some (.int .i64 0) := DA.out.c6; have q7 : v8.cell? ⟨b4, 7, none⟩ = some (.int .i64 at0) := DA.out.c7)
      | (go_at_call 10; refine (implGain_yes (xs := []) 0 hpk (show Smp _ _ none [] from fun i h => by cases h)).mono ?_; rintro e v9 ⟨rfl, hb9⟩; rw [show gainOf 1 0 = 289 from rfl]; have hbw : Below w.heap.size w v9 := below_two hbw hb9; clear q0 q1 q2 q3 q4 q5 q6 q7; have DA : Hid (Pc v9 (b4) (⟨1, 0, at0, 0, 0, 0, at0⟩ : Pb) (.slice none 0 0)) := DA.out.next hb9; have q0 : v9.cell? ⟨b4, 0, none⟩ = some (.int .i64 1) := DA.out.c0; have q1 : v9.cell? ⟨b4, 1, none⟩ = some (.int .i64 0) := DA.out.c1; have q2 : v9.cell? ⟨b4, 2, none⟩ = some (.int .i64 at0) := DA.out.c2; have q3 : v9.cell? ⟨b4, 3, none⟩ = some (.int .i64 0) := DA.out.c3; have q4 : v9.cell? ⟨b4, 4, none⟩ = some (.int .i64 0) := DA.out.c4; have q5 : v9.cell? ⟨b4, 5, none⟩ = some (.slice none 0 0) := DA.out.c5; have q6 : v9.cell? ⟨b4, 6, none⟩ = some (.int .i64 0) := DA.out.c6; have q7 : v9.cell? ⟨b4, 7, none⟩ = some (.int .i64 at0) := DA.out.c7)
      | (go_at_call 11; refine (implPace_yes (xs := []) 0 hpk (show Smp _ _ none [] from fun i h => by cases h)).mono ?_; rintro e v10 ⟨rfl, hb10⟩; rw [begun_pace]; have hbw : Below w.heap.size w v10 := below_two hbw hb10; clear q0 q1 q2 q3 q4 q5 q6 q7; have DA : Hid (Pc v10 (b4) (⟨1, 0, at0, 0, 0, 0, at0⟩ : Pb) (.slice none 0 0)) := DA.out.next hb10; have q0 : v10.cell? ⟨b4, 0, none⟩ = some (.int .i64 1) := DA.out.c0; have q1 : v10.cell? ⟨b4, 1, none⟩ = some (.int .i64 0) := DA.out.c1; have q2 : v10.cell? ⟨b4, 2, none⟩ = some (.int .i64 at0) := DA.out.c2; have q3 : v10.cell? ⟨b4, 3, none⟩ = some (.int .i64 0) := DA.out.c3; have q4 : v10.cell? ⟨b4, 4, none⟩ = some (.int .i64 0) := DA.out.c4; have q5 : v10.cell? ⟨b4, 5, none⟩ = some (.slice none 0 0) := DA.out.c5; have q6 : v10.cell? ⟨b4, 6, none⟩ = some (.int .i64 0) := DA.out.c6; have q7 : v10.cell? ⟨b4, 7, none⟩ = some (.int .i64 at0) := DA.out.c7)
      | (go_at_call 12; refine (implCap_yes (xs := []) 0 hpk (by decide) (show Smp _ _ none [] from fun i h => by cases h)).mono ?_; rintro e v11 ⟨rfl, hb11⟩; rw [begun_cap]; have hbw : Below w.heap.size w v11 := below_two hbw hb11; clear q0 q1 q2 q3 q4 q5 q6 q7; have DA : Hid (Pc v11 (b4) (⟨1, 0, at0, 0, 0, 0, at0⟩ : Pb) (.slice none 0 0)) := DA.out.next hb11; have q0 : v11.cell? ⟨b4, 0, none⟩ = some (.int .i64 1) := DA.out.c0; have q1 : v11.cell? ⟨b4, 1, none⟩ = some (.int .i64 0) := DA.out.c1; have q2 : v11.cell? ⟨b4, 2, none⟩ = some (.int .i64 at0) := DA.out.c2; have q3 : v11.cell? ⟨b4, 3, none⟩ = some (.int .i64 0) := DA.out.c3; have q4 : v11.cell? ⟨b4, 4, none⟩ = some (.int .i64 0) := DA.out.c4; have q5 : v11.cell? ⟨b4, 5, none⟩ = some (.slice none 0 0) := DA.out.c5; have q6 : v11.cell? ⟨b4, 6, none⟩ = some (.int .i64 0) := DA.out.c6; have q7 : v11.cell? ⟨b4, 7, none⟩ = some (.int .i64 at0) := DA.out.c7))
    go_ret
    exact ⟨rfl, hbw⟩
  · go_enter Try.func3, Try.ntmps3
    go_wp2_with go_in
    go_ret
    exact ⟨rfl, Below.refl _ _⟩

/-! ### THE ROW's STEP: WRITTEN OUT: LEAVE IT -/
set_option maxRecDepth 100000 in
theorem lifted (os : Os) (started : os.Started) (H : Type) (enc : TypeId × Value → H) :
    ReturnsInHanded {} Try.checked os 3 .any (Rows.fnBegunSpec.pre6 enc Try.prog Try.f3 Rows.fnBegunRow.domain false) (Rows.fnBegunSpec.post enc Try.prog Try.f3 false true false false) := by
  refine returnsInHanded_of_change (C := Try.checked) own started (by kernel_rfl) Try.func3
    (ChangeSpec.witness6 (enc := enc) (C := Try.checked) false ⟨#[], #[.slice none 0 0], []⟩ 8 (by kernel_rfl) (by kernel_rfl) (by kernel_rfl) (by kernel_rfl)) ?_
  intro W base args ds gs before hval0 hW hcnd _
  have hval : ∀ (j : Nat) t v, Try.f3.params[j]? = some t → args[j]? = some v → Value.okWide Try.prog W .any base t v := hval0
  have hW' := hW
  obtain ⟨p, q, hA0, hV, rfl, hfz, hnd⟩ := hW
  have hA : DataW.TrodAll enc Try.prog W 0 (fun _ => true) true Try.f3.params.toList args.toList ds p := hA0
  rw [Try.params3] at hA hval
  obtain ⟨v0, vs0, d0, ds0, p0, q0, hargs, rfl, rfl, h0, r0⟩ := trodAll_cons hA
  obtain ⟨rfl, rfl, rfl⟩ := trodAll_nil r0
  obtain rfl : args = #[v0] := by cases args; simp_all
  obtain ⟨rfl, rfl⟩ := trodVars_none hV
  obtain ⟨a0, len0, cap0, rfl⟩ := okWide_slice Try.underlying22 (hval 0 22 v0 rfl rfl)
  have k0 := h0
  have lt0 : ∀ x ∈ p0, x.block < W.heap.size := by obtain ⟨m, hm⟩ := k0; exact DataW.trod_lt m _ _ _ hm
  obtain ⟨z0, w0⟩ : ∃ zs, IsRow .u8 W a0 len0 cap0 zs := by
    obtain ⟨fuel, hf⟩ := h0
    rcases open_ints Try.underlying22 Try.underlying5 (by kernel_rfl) hf with ⟨hcs, _⟩ | ⟨x, l, c, zs, hcs, _, hl, hm, hz, _, hcell, hwz⟩
    · simp [Value.cells] at hcs
      obtain ⟨rfl, rfl, rfl⟩ := hcs
      exact ⟨[], .inl ⟨rfl, rfl, rfl, rfl⟩⟩
    · simp [Value.cells] at hcs
      obtain ⟨rfl, rfl, rfl⟩ := hcs
      exact ⟨zs, .inr ⟨_, rfl, hl, hm, by simpa using hz, hcell, hwz⟩⟩
  clear hA0 hval0
  refine (walk a0 len0 cap0 z0 W w0).mono fun e W' ⟨he, bel⟩ => ?_
  subst he
  exact ⟨_, rfl, _, _, _, [], _, [], hW', trodAll_mk1 (shut_bool Try.underlying4 _), (trodAll_cons_mk (Below.trod laidOut (by kernel_rfl) (of_decide_eq_true (by kernel_rfl)) k0 bel lt0) trodAll_mk0), rfl, bel.frame _, fun h => by cases h⟩

theorem over : Rows.fnBegunRow.holds Try.pinned (OpenSpec.ofChange Rows.fnBegunSpec) :=
  OpenClaim.holds_of_wide 3 Try.f3 rfl rfl rfl rfl rfl rfl rfl ⟨rfl, rfl, rfl, rfl, rfl⟩ rfl rfl rfl rfl rfl (by kernel_rfl) Try.func3 (by kernel_rfl)
    (of_decide_eq_true (by kernel_rfl)) (by unfold Func.isWrapper; first | (rw [if_pos (by decide +kernel)]; kernel_rfl) | (rw [if_neg (by decide +kernel)]; exact ⟨rfl, rfl⟩))
    (fun os started H enc _ => lifted os started H enc)

/-- ████ THE STATEMENT ████ -/
theorem proved : Rows.FnBegunSaid := over
#print axioms proved
end Go.Proofs.Ytiibafphgjlffaf.fnBegun
namespace Go.Proofs.Ytiibafphgjlffaf
theorem fnBegun_holds : Rows.FnBegunSaid := fnBegun.proved
#print axioms fnBegun_holds
end Go.Proofs.Ytiibafphgjlffaf
