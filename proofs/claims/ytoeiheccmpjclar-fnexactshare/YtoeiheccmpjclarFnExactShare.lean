/- Proved: at every Place impl.Share answers as spec.Share does and writes nothing into it (the law FnExactShare returns true and its arguments read as before); no condition. -/
import Derived.Test.YtoeiheccmpjclarRows
import Derived.WalkKit
import Derived.ProofKit
import Derived.OpenShut
import Derived.ShutString
import Derived.Below
import Derived.Laws.Cover2
import Derived.Test.YtoeiheccmpjclarImplPlc
import Derived.Deep.RegionHeld3
namespace Go.Proofs.Ytoeiheccmpjclar.fnExactShare
open Go.ChangeShapes Go.WideShapes Go.ChangeAt Go.RowKit
set_option linter.unusedVariables false

theorem own : ownKnob Try.prog.godebug = none := by kernel_rfl

set_option linter.unusedSimpArgs false
set_option linter.unusedVariables false
set_option maxRecDepth 100000

/-! ### STEP 1: the walk -/
theorem walk (w : World) (wd0 fl0 : Int) (a0 : Option Addr) (cap0 : Nat) (xs0 : List Int) (iwd0 : I64 wd0) (ifl0 : I64 fl0) (hs0 : ISmp w.heap.size w a0 xs0) (hm0 : xs0.length ≤ maxLen) :
    Calls Try.prog 8 #[.agg #[.int .i64 wd0, .int .i64 fl0, .slice a0 xs0.length cap0]] w fun e w' => e = .returned (.bool true) ∧ Below w.heap.size w w' := by
  have hl : (xs0.length : Int) ≤ 9223372036854775807 := by unfold maxLen at hm0; omega
  by_cases hs : xs0.length ≤ 1048576
  · have hz : (if xs0.length ≤ 1048576 then 1048576 - (xs0.length : Int) else -1) = 1048576 - (xs0.length : Int) := if_pos hs
    have hz' : (0 : Int) ≤ 1048576 - (xs0.length : Int) := by omega
    have DP0 : Hid (Qc (w.alloc (.cells #[.int .i64 wd0, .int .i64 fl0, .slice a0 xs0.length cap0] 24)) w.heap.size wd0 fl0 (.slice a0 xs0.length cap0)) := qc_new w wd0 fl0 _ _
    obtain ⟨f, hf⟩ : ∃ f, shareAns wd0 fl0 xs0 = f := ⟨_, rfl⟩
    have HSPEC : Hid (∀ (w : World) (a : Option Addr) (cap : Nat), ISmp w.heap.size w a xs0 → Calls Try.prog 24 #[.agg #[.int .i64 wd0, .int .i64 fl0, .slice a xs0.length cap]] w fun e w' => e = .returned (.int .i64 f) ∧ Below w.heap.size w w') := fun w a cap smp => by rw [← hf]; exact specShare_any cap smp
    have HIMPL : Hid (∀ (w : World) (a : Option Addr) (cap : Nat), ISmp w.heap.size w a xs0 → Calls Try.prog 25 #[.agg #[.int .i64 wd0, .int .i64 fl0, .slice a xs0.length cap]] w fun e w' => e = .returned (.int .i64 f) ∧ Below w.heap.size w w') := fun w a cap smp => by rw [← hf]; exact implShare_any cap smp
    clear hf
    go_enter Try.func8, Try.ntmps8
    go_upto_region 7 with (first
      | (go_at_call 9; refine (szPlace_any _ _ _ _ hl).mono ?_; rintro e v1 ⟨rfl, hb1⟩; rw [hz]; have hbw : Below w.heap.size w v1 := below_two (by go_grown) hb1; have DP : Hid (Qc v1 (w.heap.size) wd0 fl0 (.slice a0 xs0.length cap0)) := DP0.out.next hb1; have p0 : v1.cell? ⟨w.heap.size, 0, none⟩ = some (.int .i64 wd0) := DP.out.c0; have p1 : v1.cell? ⟨w.heap.size, 1, none⟩ = some (.int .i64 fl0) := DP.out.c1; have p2 : v1.cell? ⟨w.heap.size, 2, none⟩ = some (.slice a0 xs0.length cap0) := DP.out.c2)
      | (go_at_call 11; have g1 := mk1; refine (toPlace_any cap0 (hs0.here hbw) hs).mono ?_; rintro e v4 ⟨gx, rfl, gx0, gx1, fx, hb4⟩; have hbw : Below w.heap.size w v4 := below_two hbw hb4; clear p0 p1 p2; have DP : Hid (Qc v4 (w.heap.size) wd0 fl0 (.slice a0 xs0.length cap0)) := DP.out.next hb4; have p0 : v4.cell? ⟨w.heap.size, 0, none⟩ = some (.int .i64 wd0) := DP.out.c0; have p1 : v4.cell? ⟨w.heap.size, 1, none⟩ = some (.int .i64 fl0) := DP.out.c1; have p2 : v4.cell? ⟨w.heap.size, 2, none⟩ = some (.slice a0 xs0.length cap0) := DP.out.c2)
      | (go_at_call 11; refine (toPlace_any cap0 (hs0.here hbw) hs).mono ?_; rintro e v2 ⟨g2, rfl, g20, g21, f2, hb2⟩; have hbw : Below w.heap.size w v2 := below_two hbw hb2; clear p0 p1 p2; have DP : Hid (Qc v2 (w.heap.size) wd0 fl0 (.slice a0 xs0.length cap0)) := DP.out.next hb2; have p0 : v2.cell? ⟨w.heap.size, 0, none⟩ = some (.int .i64 wd0) := DP.out.c0; have p1 : v2.cell? ⟨w.heap.size, 1, none⟩ = some (.int .i64 fl0) := DP.out.c1; have p2 : v2.cell? ⟨w.heap.size, 2, none⟩ = some (.slice a0 xs0.length cap0) := DP.out.c2; have sm2 := f2.smp g21)
      | (go_at_call 24; refine (HSPEC.out _ _ _ sm2).mono ?_; rintro e v3 ⟨rfl, hb3⟩; have hbw : Below w.heap.size w v3 := below_two hbw hb3; clear p0 p1 p2; have DP : Hid (Qc v3 (w.heap.size) wd0 fl0 (.slice a0 xs0.length cap0)) := DP.out.next hb3; have p0 : v3.cell? ⟨w.heap.size, 0, none⟩ = some (.int .i64 wd0) := DP.out.c0; have p1 : v3.cell? ⟨w.heap.size, 1, none⟩ = some (.int .i64 fl0) := DP.out.c1; have p2 : v3.cell? ⟨w.heap.size, 2, none⟩ = some (.slice a0 xs0.length cap0) := DP.out.c2; have mk1 : True := trivial))
    have fvx : IV v4 v3.heap.size (.slice (some ⟨gx, 0, none⟩) xs0.length xs0.length) xs0 := .inl ⟨gx, _, rfl, gx0, gx1, fx, Nat.le_refl _⟩
    have sx := fx.smp gx1
    obtain ⟨v5, hv5⟩ : ∃ x, x = v4.alloc (.cells #[.int .i64 wd0, .int .i64 fl0, .slice (some ⟨gx, 0, none⟩) xs0.length xs0.length] 26) := ⟨_, rfl⟩
    obtain ⟨bx, ebx⟩ : ∃ b, b = v4.heap.size := ⟨_, rfl⟩
    rw [← hv5, ← ebx]
    have ybx : v4.heap.size ≤ bx := by omega
    have ubx : bx < v5.heap.size := by rw [hv5, ebx]; simp
    have kv5 : Below v4.heap.size v4 v5 := by rw [hv5]; exact new_below _ _
    have DX : Hid (Qc v5 (bx) wd0 fl0 (.slice (some ⟨gx, 0, none⟩) xs0.length xs0.length)) := by rw [hv5, ebx]; exact qc_new _ wd0 fl0 _ _
    clear hv5 ebx
    have hbw : Below w.heap.size w v5 := below_two hbw kv5; clear p0 p1 p2
    have DP : Hid (Qc v5 (w.heap.size) wd0 fl0 (.slice a0 xs0.length cap0)) := DP.out.next kv5
    have p0 : v5.cell? ⟨w.heap.size, 0, none⟩ = some (.int .i64 wd0) := DP.out.c0
    have p1 : v5.cell? ⟨w.heap.size, 1, none⟩ = some (.int .i64 fl0) := DP.out.c1
    have p2 : v5.cell? ⟨w.heap.size, 2, none⟩ = some (.slice a0 xs0.length cap0) := DP.out.c2
    have fvx := fvx.next kv5
    have xx0 : v5.cell? ⟨bx, 0, none⟩ = some (.int .i64 wd0) := DX.out.c0
    have xx1 : v5.cell? ⟨bx, 1, none⟩ = some (.int .i64 fl0) := DX.out.c1
    have xx2 : v5.cell? ⟨bx, 2, none⟩ = some (.slice (some ⟨gx, 0, none⟩) xs0.length xs0.length) := DX.out.c2
    have sx := sx.here kv5
    go_upto_region 10 with (first
      | (go_at_call 25; refine (HIMPL.out _ _ _ sx).mono ?_; rintro e v6 ⟨rfl, hb6⟩; have hbw : Below w.heap.size w v6 := below_two hbw hb6; clear p0 p1 p2; have DP : Hid (Qc v6 (w.heap.size) wd0 fl0 (.slice a0 xs0.length cap0)) := DP.out.next hb6; have p0 : v6.cell? ⟨w.heap.size, 0, none⟩ = some (.int .i64 wd0) := DP.out.c0; have p1 : v6.cell? ⟨w.heap.size, 1, none⟩ = some (.int .i64 fl0) := DP.out.c1; have p2 : v6.cell? ⟨w.heap.size, 2, none⟩ = some (.slice a0 xs0.length cap0) := DP.out.c2; clear xx0 xx1 xx2; have DX : Hid (Qc v6 (bx) wd0 fl0 (.slice (some ⟨gx, 0, none⟩) xs0.length xs0.length)) := DX.out.next hb6; have xx0 : v6.cell? ⟨bx, 0, none⟩ = some (.int .i64 wd0) := DX.out.c0; have xx1 : v6.cell? ⟨bx, 1, none⟩ = some (.int .i64 fl0) := DX.out.c1; have xx2 : v6.cell? ⟨bx, 2, none⟩ = some (.slice (some ⟨gx, 0, none⟩) xs0.length xs0.length) := DX.out.c2; have fvx := fvx.next hb6))
    have HS : Hid (∀ w', Below v6.heap.size v6 w' → (fun w' => w'.cell? ⟨w.heap.size, 0, none⟩ = some (.int .i64 wd0) ∧ w'.cell? ⟨w.heap.size, 1, none⟩ = some (.int .i64 fl0) ∧ w'.cell? ⟨w.heap.size, 2, none⟩ = some (.slice a0 xs0.length cap0) ∧ w'.cell? ⟨bx, 0, none⟩ = some (.int .i64 wd0) ∧ w'.cell? ⟨bx, 1, none⟩ = some (.int .i64 fl0) ∧ w'.cell? ⟨bx, 2, none⟩ = some (.slice (some ⟨gx, 0, none⟩) xs0.length xs0.length)) w') := fun w' h => ⟨(DP.out.next h).c0, (DP.out.next h).c1, (DP.out.next h).c2, (DX.out.next h).c0, (DX.out.next h).c1, (DX.out.next h).c2⟩
    have hr : Below v6.heap.size v6 v6.drew := (Below.refl _ _).drew
    refine wp_region_held_drew (S := fun w' => w'.cell? ⟨w.heap.size, 0, none⟩ = some (.int .i64 wd0) ∧ w'.cell? ⟨w.heap.size, 1, none⟩ = some (.int .i64 fl0) ∧ w'.cell? ⟨w.heap.size, 2, none⟩ = some (.slice a0 xs0.length cap0) ∧ w'.cell? ⟨bx, 0, none⟩ = some (.int .i64 wd0) ∧ w'.cell? ⟨bx, 1, none⟩ = some (.int .i64 fl0) ∧ w'.cell? ⟨bx, 2, none⟩ = some (.slice (some ⟨gx, 0, none⟩) xs0.length xs0.length)) (by kernel_rfl) (HS.out _ hr) (fun hS => ?_)
    refine wpAnyH_take (i := 0) (v := ?_) rfl (by kernel_rfl) (by kernel_rfl) (by kernel_rfl) (fun _ _ _ h => h) (Or.inl ⟨by rfl, ?_⟩) (by assumption) ?_
    rotate_left 1
    · (intro w' hSw; (try dsimp only at hSw); go_simp; try with_reducible rfl)
    try simp only [Act.put, List.setIfInBounds_toArray, List.set_cons_zero, List.set_cons_succ, List.getElem_toArray, List.getElem_cons_succ, List.getElem_cons_zero]
    refine wpAnyH_take (i := 1) (v := ?_) rfl (by kernel_rfl) (by kernel_rfl) (by kernel_rfl) (fun _ _ _ h => h) (Or.inl ⟨by rfl, ?_⟩) (by assumption) ?_
    rotate_left 1
    · (intro w' hSw; (try dsimp only at hSw); go_simp; try with_reducible rfl)
    try simp only [Act.put, List.setIfInBounds_toArray, List.set_cons_zero, List.set_cons_succ, List.getElem_toArray, List.getElem_cons_succ, List.getElem_cons_zero]
    refine wpAnyH_ready (rs := [2]) (by kernel_rfl) (by simp) (AllReadyH.cons rfl (fun K hK => ?_) AllReadyH.nil)
    go_simp
    (refine (toPlace_any cap0 (hs0.here (below_two hbw hr)) hs).mono ?_; rintro e x1 ⟨gF, rfl, gF0, gF1, fF, hbq⟩; have fvF : IV x1 _ (.slice (some ⟨gF, 0, none⟩) xs0.length xs0.length) xs0 := .inl ⟨gF, _, rfl, gF0, gF1, fF, Nat.le_refl _⟩; have hr := hr.trans (hbq.mono hr.size); have hSq := HS.out _ hr)
    refine hK.out _ _ (by assumption) (fun _ => ?_)
    try simp only [Act.put, List.setIfInBounds_toArray, List.set_cons_zero, List.set_cons_succ, List.getElem_toArray, List.getElem_cons_succ, List.getElem_cons_zero]
    refine wpAnyH_ready (rs := [3]) (by kernel_rfl) (by simp) (AllReadyH.cons rfl (fun K hK => ?_) AllReadyH.nil)
    go_simp
    (refine (eqPlace_same (fvx.next hr) fvF (by omega)).mono ?_; rintro e x2 ⟨rfl, hbq⟩; have hr := hr.trans (hbq.mono hr.size); have hSq := HS.out _ hr)
    refine hK.out _ _ (by assumption) (fun _ => ?_)
    try simp only [Act.put, List.setIfInBounds_toArray, List.set_cons_zero, List.set_cons_succ, List.getElem_toArray, List.getElem_cons_succ, List.getElem_cons_zero]
    refine wpAnyH_take (i := 4) (v := ?_) rfl (by kernel_rfl) (by kernel_rfl) (by kernel_rfl) (fun _ _ _ h => h) (Or.inl ⟨by rfl, ?_⟩) (by assumption) ?_
    rotate_left 1
    · (intro w' hSw; (try dsimp only at hSw); go_simp; try with_reducible rfl)
    try simp only [Act.put, List.setIfInBounds_toArray, List.set_cons_zero, List.set_cons_succ, List.getElem_toArray, List.getElem_cons_succ, List.getElem_cons_zero]
    refine wpAnyH_done (by kernel_rfl) ?_ _
    go_wp2
    go_ret
    exact ⟨rfl, below_two hbw hr⟩
  · have hz : (if xs0.length ≤ 1048576 then 1048576 - (xs0.length : Int) else -1) = -1 := if_neg hs
    go_enter Try.func8, Try.ntmps8
    go_wp2_with (first
      | (go_at_call 9; refine (szPlace_any _ _ _ _ hl).mono ?_; rintro e v1 ⟨rfl, hb1⟩; rw [hz]; have hbw : Below w.heap.size w v1 := below_two (by go_grown) hb1))
    go_ret
    exact ⟨rfl, hbw⟩

/-! ### THE ROW's STEP -/
set_option maxRecDepth 100000 in
theorem lifted (os : Os) (started : os.Started) (H : Type) (enc : TypeId × Value → H) :
    ReturnsInHanded {} Try.checked os 8 .any (Rows.fnExactShareSpec.pre6 enc Try.prog Try.f8 Rows.fnExactShareRow.domain false) (Rows.fnExactShareSpec.post enc Try.prog Try.f8 false true false false) := by
  refine returnsInHanded_of_change (C := Try.checked) own started (by kernel_rfl) Try.func8
    (ChangeSpec.witness6 (enc := enc) (C := Try.checked) false ⟨#[], #[.agg #[.int .i64 0, .int .i64 0, .slice none 0 0]], []⟩ 8 (by kernel_rfl) (by kernel_rfl) (by kernel_rfl) (by kernel_rfl)) ?_
  intro W base args ds gs before hval0 hW hcnd _
  have hval : ∀ (j : Nat) t v, Try.f8.params[j]? = some t → args[j]? = some v → Value.okWide Try.prog W .any base t v := hval0
  have hW' := hW
  have hlt := hW'.lt
  obtain ⟨p, q, hA0, hV, rfl, hfz, hnd⟩ := hW
  have hA : DataW.TrodAll enc Try.prog W 0 (fun _ => true) true Try.f8.params.toList args.toList ds p := hA0
  rw [Try.params8] at hA hval
  have hR := hA
  obtain ⟨v0, vs0, d0, ds0, p0, q0, hargs, rfl, rfl, h0, r0⟩ := trodAll_cons hA
  obtain ⟨rfl, rfl, rfl⟩ := trodAll_nil r0
  obtain rfl : args = #[v0] := by cases args; simp_all
  obtain ⟨rfl, rfl⟩ := trodVars_none hV
  obtain ⟨wd0, fl0, a0, cap0, xs0, rfl, iwd0, ifl0, hs0, hm0⟩ := open_place (hval 0 24 v0 rfl rfl) h0
  clear hA0 hval0
  refine (walk W wd0 fl0 a0 cap0 xs0 iwd0 ifl0 hs0 hm0).mono fun e W' ⟨he, hg⟩ => ?_
  subst he
  exact ⟨_, rfl, _, _, _, [], _, [], hW', (trodAll_cons_mk (shut_bool Try.underlying4 _) trodAll_mk0), trodAll_after table_ok hg (by decide) hR (fun x hx => hlt x (List.mem_append.2 (.inl hx))), rfl, hg.frame _, fun h => by cases h⟩

theorem over : Rows.fnExactShareRow.holds Try.pinned (OpenSpec.ofChange Rows.fnExactShareSpec) :=
  OpenClaim.holds_of_wide 8 Try.f8 rfl rfl rfl rfl rfl rfl rfl ⟨rfl, rfl, rfl, rfl, rfl⟩ rfl rfl rfl rfl rfl (by kernel_rfl) Try.func8 (by kernel_rfl)
    (of_decide_eq_true (by kernel_rfl)) (by unfold Func.isWrapper; first | (rw [if_pos (by decide +kernel)]; kernel_rfl) | (rw [if_neg (by decide +kernel)]; exact ⟨rfl, rfl⟩))
    (fun os started H enc _ => lifted os started H enc)

theorem proved : Rows.FnExactShareSaid := over
#print axioms proved
end Go.Proofs.Ytoeiheccmpjclar.fnExactShare
namespace Go.Proofs.Ytoeiheccmpjclar
theorem fnExactShare_holds : Rows.FnExactShareSaid := fnExactShare.proved
#print axioms fnExactShare_holds
end Go.Proofs.Ytoeiheccmpjclar
