/- Proved: at every filter impl.Best answers as spec.Best does and writes nothing into it (the law FnExactBest returns true and its argument reads as before); no condition. -/
import Derived.Test.YtgekjkdhhbbbkaiRows
import Derived.WalkKit
import Derived.ProofKit
import Derived.OpenShut
import Derived.ShutString
import Derived.Below
import Derived.Laws.Cover2
import Derived.Test.YtgekjkdhhbbbkaiEqSmp
import Derived.Test.YtgekjkdhhbbbkaiImplFilter
import Derived.Deep.RegionHeld3
namespace Go.Proofs.Ytgekjkdhhbbbkai.fnExactBest
open Go.ChangeShapes Go.WideShapes Go.ChangeAt Go.RowKit
set_option linter.unusedVariables false

theorem own : ownKnob Try.prog.godebug = none := by kernel_rfl


/-! ### STEP 1: the walk -/
theorem walk (w : World) (a0 : Option Addr) (cap0 : Nat) (xs0 : List (Int × Int)) (hs0 : Smp w.heap.size w a0 xs0) (hi0 : ∀ x ∈ xs0, I64 x.1 ∧ I64 x.2) (hn0 : a0 = none → xs0 = [] ∧ cap0 = 0) (hc0 : xs0.length ≤ cap0) (hm0 : cap0 ≤ maxLen) :
    Calls Try.prog 7 #[.agg #[.slice a0 xs0.length cap0]] w fun e w' => e = .returned (.bool true) ∧ Below w.heap.size w w' := by
  have hl : (xs0.length : Int) ≤ 9223372036854775807 := by unfold maxLen at hm0; omega
  by_cases hs : xs0.length ≤ 1048576
  · have hz : (if xs0.length ≤ 1048576 then 1048576 - (xs0.length : Int) else -1) = 1048576 - (xs0.length : Int) := if_pos hs
    have hz' : (0 : Int) ≤ 1048576 - (xs0.length : Int) := by omega
    go_enter Try.func7, Try.ntmps7
    go_wp2_with (first
      | (go_at_call 14; refine (szFilter_any _ _ _ _ hl).mono ?_; rintro e w2 ⟨rfl, hb1⟩; have hp := below_step (w := w.alloc (.cells #[.slice a0 xs0.length cap0] 27)) (by go_grown) hb1; have zp := hp.size; have kc := below_cells hp; have kf := below_frozens hp; have hb := below_step (w := w) (by go_grown) hb1; have zb := hb.size; rw [hz])
      | (go_at_call 16; have g1 := sw; refine (toFilter_any cap0 (hs0.here (by go_grown)) hs).mono ?_; rintro e wx ⟨gx, rfl, hg0, hg1, f, hb1⟩; have hp := below_step (w := w.alloc (.cells #[.slice a0 xs0.length cap0] 27)) (by go_grown) hb1; have zp := hp.size; have kc := below_cells hp; have kf := below_frozens hp; have hb := below_step (w := w) (by go_grown) hb1; have zb := hb.size; have sw := sw.here (below_step (by go_grown) hb1); have sx := f.smp hg1)
      | (go_at_call 16; refine (toFilter_any cap0 (hs0.here (by go_grown)) hs).mono ?_; rintro e w2 ⟨g, rfl, hg0, hg1, f, hb1⟩; have hp := below_step (w := w.alloc (.cells #[.slice a0 xs0.length cap0] 27)) (by go_grown) hb1; have zp := hp.size; have kc := below_cells hp; have kf := below_frozens hp; have hb := below_step (w := w) (by go_grown) hb1; have zb := hb.size; have sw := f.smp hg1)
      | (go_at_call 24; refine (specBest_any _ (sw.here (by go_grown)) (Nat.le_refl _)).mono ?_; rintro e w2 ⟨rfl, hb1⟩; have hp := below_step (w := w.alloc (.cells #[.slice a0 xs0.length cap0] 27)) (by go_grown) hb1; have zp := hp.size; have kc := below_cells hp; have kf := below_frozens hp; have hb := below_step (w := w) (by go_grown) hb1; have zb := hb.size; have sw := sw.here (below_step (by go_grown) hb1))
      | (go_at_call 25; refine (implBest_any _ (sx.here (by go_grown)) (Nat.le_refl _)).mono ?_; rintro e w2 ⟨rfl, hb1⟩; have hp := below_step (w := w.alloc (.cells #[.slice a0 xs0.length cap0] 27)) (by go_grown) hb1; have zp := hp.size; have kc := below_cells hp; have kf := below_frozens hp; have hb := below_step (w := w) (by go_grown) hb1; have zb := hb.size; have sw := sw.here (below_step (by go_grown) hb1); have sx := sx.here (below_step (by go_grown) hb1); have hx := hb1; have zhx := hx.size; have khx := below_cells hx; have lhx := below_frozens hx)
      | go_in)
    have cx : (wx.alloc (.cells #[.slice (some ⟨gx, 0, none⟩) xs0.length xs0.length] 32)).cell? ⟨wx.heap.size, 0, none⟩ = some (.slice (some ⟨gx, 0, none⟩) xs0.length xs0.length) := by go_simp
    have cp : (w.alloc (.cells #[.slice a0 xs0.length cap0] 27)).cell? ⟨w.heap.size, 0, none⟩ = some (.slice a0 xs0.length cap0) := by go_simp
    have s1 := (khx _ _ (by simp)).trans cx
    have s2 := (kc _ _ (by simp)).trans cp
    go_region_held3 (fun w' => w'.cell? ⟨wx.heap.size, 0, none⟩ = some (.slice (some ⟨gx, 0, none⟩) xs0.length xs0.length) ∧ w'.cell? ⟨w.heap.size, 0, none⟩ = some (.slice a0 xs0.length cap0)) (go_keep)
      (first
        | (go_at_call 16; refine (toFilter_any cap0 (hs0.here (by go_grown)) hs).mono ?_; rintro e w3 ⟨g, rfl, hg0, hg1, f, hb1⟩; have hp := below_step (w := w.alloc (.cells #[.slice a0 xs0.length cap0] 27)) (by go_grown) hb1; have zp := hp.size; have kc := below_cells hp; have kf := below_frozens hp; have hb := below_step (w := w) (by go_grown) hb1; have zb := hb.size; have hx := below_next hx (by go_grown) hb1; have zhx := hx.size; have khx := below_cells hx; have lhx := below_frozens hx; have sx := sx.here (below_step (by go_grown) hb1); have sy := f.smp hg1; have s1 := (khx _ _ (by simp)).trans cx; have s2 := (kc _ _ (by simp)).trans cp)
        | (go_at_call 18; refine (eqFilter_any _ _ (sx.here (by go_grown)) (sy.here (by go_grown)) (by omega)).mono ?_; rintro e w4 ⟨rfl, hb1⟩; have hp := below_step (w := w.alloc (.cells #[.slice a0 xs0.length cap0] 27)) (by go_grown) hb1; have zp := hp.size; have kc := below_cells hp; have kf := below_frozens hp; have hb := below_step (w := w) (by go_grown) hb1; have zb := hb.size; have hx := below_next hx (by go_grown) hb1; have zhx := hx.size; have khx := below_cells hx; have lhx := below_frozens hx; rw [show decide (xs0 = xs0) = true from decide_eq_true rfl]; have s1 := (khx _ _ (by simp)).trans cx; have s2 := (kc _ _ (by simp)).trans cp))
    all_goals go_wp2
    all_goals go_ret
    all_goals exact ⟨rfl, hb⟩
  · have hz : (if xs0.length ≤ 1048576 then 1048576 - (xs0.length : Int) else -1) = -1 := if_neg hs
    go_enter Try.func7, Try.ntmps7
    go_wp2_with (first
      | (go_at_call 14; refine (szFilter_any _ _ _ _ hl).mono ?_; rintro e w2 ⟨rfl, hb1⟩; have hp := below_step (w := w.alloc (.cells #[.slice a0 xs0.length cap0] 27)) (by go_grown) hb1; have zp := hp.size; have kc := below_cells hp; have kf := below_frozens hp; have hb := below_step (w := w) (by go_grown) hb1; have zb := hb.size; rw [hz])
      | go_in)
    go_ret
    exact ⟨rfl, hb⟩

/-! ### THE ROW's STEP -/
set_option maxRecDepth 100000 in
theorem lifted (os : Os) (started : os.Started) (H : Type) (enc : TypeId × Value → H) :
    ReturnsInHanded {} Try.checked os 7 .any (Rows.fnExactBestSpec.pre6 enc Try.prog Try.f7 Rows.fnExactBestRow.domain false) (Rows.fnExactBestSpec.post enc Try.prog Try.f7 false true false false) := by
  refine returnsInHanded_of_change (C := Try.checked) own started (by kernel_rfl) Try.func7
    (ChangeSpec.witness6 (enc := enc) (C := Try.checked) false ⟨#[], #[.agg #[.slice none 0 0]], []⟩ 8 (by kernel_rfl) (by kernel_rfl) (by kernel_rfl) (by kernel_rfl)) ?_
  intro W base args ds gs before hval0 hW hcnd _
  have hval : ∀ (j : Nat) t v, Try.f7.params[j]? = some t → args[j]? = some v → Value.okWide Try.prog W .any base t v := hval0
  have hW' := hW
  have hlt := hW'.lt
  obtain ⟨p, q, hA0, hV, rfl, hfz, hnd⟩ := hW
  have hA : DataW.TrodAll enc Try.prog W 0 (fun _ => true) true Try.f7.params.toList args.toList ds p := hA0
  rw [Try.params7] at hA hval
  have hR := hA
  obtain ⟨v0, vs0, d0, ds0, p0, q0, hargs, rfl, rfl, h0, r0⟩ := trodAll_cons hA
  obtain ⟨rfl, rfl, rfl⟩ := trodAll_nil r0
  obtain rfl : args = #[v0] := by cases args; simp_all
  obtain ⟨rfl, rfl⟩ := trodVars_none hV
  obtain ⟨a0, cap0, xs0, rfl, hs0, hi0, hn0, hc0, hm0⟩ := open_filter (hval 0 27 v0 rfl rfl) h0
  clear hA0 hval0
  refine (walk W a0 cap0 xs0 hs0 hi0 hn0 hc0 hm0).mono fun e W' ⟨he, hg⟩ => ?_
  subst he
  exact ⟨_, rfl, _, _, _, [], _, [], hW', (trodAll_cons_mk (shut_bool Try.underlying4 _) trodAll_mk0), trodAll_after table_ok hg (by decide) hR (fun x hx => hlt x (List.mem_append.2 (.inl hx))), rfl, hg.frame _, fun h => by cases h⟩

theorem over : Rows.fnExactBestRow.holds Try.pinned (OpenSpec.ofChange Rows.fnExactBestSpec) :=
  OpenClaim.holds_of_wide 7 Try.f7 rfl rfl rfl rfl rfl rfl rfl ⟨rfl, rfl, rfl, rfl, rfl⟩ rfl rfl rfl rfl rfl (by kernel_rfl) Try.func7 (by kernel_rfl)
    (of_decide_eq_true (by kernel_rfl)) (by unfold Func.isWrapper; first | (rw [if_pos (by decide +kernel)]; kernel_rfl) | (rw [if_neg (by decide +kernel)]; exact ⟨rfl, rfl⟩))
    (fun os started H enc _ => lifted os started H enc)

theorem proved : Rows.FnExactBestSaid := over
#print axioms proved
end Go.Proofs.Ytgekjkdhhbbbkai.fnExactBest
namespace Go.Proofs.Ytgekjkdhhbbbkai
theorem fnExactBest_holds : Rows.FnExactBestSaid := fnExactBest.proved
#print axioms fnExactBest_holds
end Go.Proofs.Ytgekjkdhhbbbkai
