/- Proved: whatever the bytes, the law FnCurve returns true (at the windows and the time that the model draws of them impl.CubicAt and CubicTime answer as spec's do; where the curve is told it never falls, is back at the last window after its time, and begins at its origin to within a thousandth and ten bytes, no higher than the last window), and the bytes read as before; no condition. -/
import Derived.Test.YtmophpbfaonfmaeRows
import Derived.WalkKit
import Derived.ProofKit
import Derived.OpenShut
import Derived.ShutString
import Derived.ChangeOld
import Derived.Below
import Derived.Test.YtmophpbfaonfmaeDraw11
import Derived.Test.YtmophpbfaonfmaeDrawLevel
import Derived.Test.YtmophpbfaonfmaeImplCubic
import Derived.Test.YtmophpbfaonfmaeCurveMath
import Derived.Deep.DeepCutAuto
namespace Go.Proofs.Ytmophpbfaonfmae.fnCurve
open Go.ChangeShapes Go.WideShapes Go.ChangeAt Go.RowKit
open Go.ChangeMaps (open_string shut_string)
set_option linter.unusedVariables false

theorem own : ownKnob Try.prog.godebug = none := by kernel_rfl
theorem laidOut : laidOutB Try.prog = true := by kernel_rfl

/-- WHAT THE WALK IS TOLD OF A SLICE OF INTEGERS THAT CAME IN: it is nil; or it leads to a row of 'cap' cells, the numbers 'zs' (the first 'len' are its elements, the rest its spare room), each fitting its kind. -/
def IsRow (k : IntKind) (w : World) (a : Option Addr) (len cap : Nat) (zs : List Int) : Prop :=
  (a = none ∧ len = 0 ∧ cap = 0 ∧ zs = []) ∨
  ∃ x, a = some x ∧ len ≤ cap ∧ cap ≤ maxLen ∧ zs.length = cap ∧ (∀ i, i < zs.length → w.cell? (x.add i) = some (.int k (zs.getD i 0))) ∧ ∀ n ∈ zs, (Lit.int k n).wf = true

set_option linter.unusedSimpArgs false
set_option maxRecDepth 100000
theorem row_of {w : World} {a : Option Addr} {len cap : Nat} {zs : List Int} (h : IsRow .u8 w a len cap zs) : Row w.heap.size a len w := by
  intro i hi
  rcases h with ⟨rfl, rfl, rfl, rfl⟩ | ⟨x, rfl, hl, hm, hz, hcell, hwz⟩
  · omega
  · obtain ⟨b, off, spot⟩ := x
    have hspot : spot = none := by simpa [Addr.add] using World.cell?_spot (hcell 0 (by omega))
    subst hspot
    have hc := hcell i (by omega)
    have hc' : w.cell? ⟨b, off + i, none⟩ = some (.int .u8 (zs.getD i 0)) := by
      by_cases h0 : i = 0
      · subst h0; simpa [Addr.add] using hc
      · simpa [Addr.add, h0] using hc
    have hlt : i < zs.length := by omega
    have hm : zs.getD i 0 ∈ zs := by simp [List.getD, List.getElem?_eq_getElem hlt]
    obtain ⟨z0, z1⟩ := bounds_u8 (hwz _ hm)
    exact ⟨b, off, zs.getD i 0, rfl, World.block_lt_of_cell? w _ hc', hc', z0, z1⟩
theorem ret_bool {f : Bool} (h : f = true) : Ending.returned (.bool f) = .returned (.bool true) := by rw [h]
theorem below_stepx {w x y : World} (h : Below w.heap.size w x) (k : Below x.heap.size x y) : Below w.heap.size w y := h.trans (k.mono h.size)
theorem w10_of {x : Int} (h : 0 ≤ x ∧ x ≤ 1000000000) : w10B x = true := by unfold w10B; simp only [Bool.and_eq_true, decide_eq_true_eq]; exact h
theorem ms_of {x : Int} (h : 0 ≤ x ∧ x ≤ 1000000) : ms10B x = true := by unfold ms10B; simp only [Bool.and_eq_true, decide_eq_true_eq]; exact h
/-- What the law asks of the curve. -/
theorem curve_law {l o m p : Int} (h : (w10B l = true ∧ w10B o = true) ∧ ms10B m = true) (hp : 0 ≤ p) :
    0 ≤ cubAtOf l o m ∧ (cubAtOf l o m ≤ cubAtOf l o (m + p) ∨ cubAtOf l o (m + p) = -1) ∧ cubAtOf l o (cubTimeOf l o) = l ∧ ((l ≤ o ∧ cubAtOf l o 0 = l) ∨ (o < l ∧ o ≤ cubAtOf l o 0 ∧ cubAtOf l o 0 ≤ l)) := by
  obtain ⟨⟨h1, h2⟩, h3⟩ := h
  obtain ⟨l0, l1⟩ := win_num h1
  obtain ⟨o0, o1⟩ := win_num h2
  have e : ∀ x, ms10B x = true → cubAtOf l o x = cubAt l o x := fun x hx => if_pos ⟨⟨h1, h2⟩, hx⟩
  have eT : cubTimeOf l o = cubT l o := if_pos ⟨h1, h2⟩
  have hb := cubT_bd (la := l) (og := o) o0 l1
  rw [eT, e m h3, e 0 (by decide), e _ (ms_of hb), cubAt_time l0 l1]
  refine ⟨by unfold cubAt; omega, ?_, rfl, ?_⟩
  · by_cases hk : ms10B (m + p) = true
    · rw [e _ hk]
      exact .inl (cubAt_mono (by omega))
    · exact .inr (if_neg (fun h => hk h.2))
  · by_cases hl : l ≤ o
    · exact .inl ⟨hl, cubAt_flat l0 l1 hl⟩
    · exact .inr ⟨by omega, cubAt_start o0 l1 (by omega)⟩

/-! ### STEP 1: THE WALK: the Go text returns true, AND WRITES NOTHING THAT WAS THERE: 'Below w.heap.size w w'' (Derived/Below.lean: '.refl', '.alloc', '.drew', '.setCell' at a new block, '.trans'). Open each 'IsRow' by 'rcases' AHEAD of 'go_enter'; part every test ahead of the walk. -/
set_option maxHeartbeats 4000000 in
theorem walk (a0 : Option Addr) (len0 cap0 : Nat) (z0 : List Int) (w : World) (w0 : IsRow .u8 w a0 len0 cap0 z0) :
    Calls Try.prog 6 #[.slice a0 len0 cap0] w fun e w' => e = .returned (.bool true) ∧ Below w.heap.size w w' := by
  have row := row_of w0
  by_cases hs : len0 ≤ 4096
  · go_enter Try.func6, Try.ntmps6
    go_upto_region 4 with (first
      | (go_at_call 29; refine (drawCubicAt_any cap0 hs row (Nat.le_refl _)).mono ?_; rintro e w1 ⟨l, o, m, rfl, hbw⟩; have zb := hbw.size)
      | go_in)
    obtain ⟨k, hk⟩ : ∃ k, cubTimeOf l o = k := ⟨_, rfl⟩
    have HT : Hid (∀ w : World, Calls Try.prog 31 #[.int .i64 l, .int .i64 o] w fun e w' => e = .returned (.int .i64 k) ∧ Below w.heap.size w w') := fun w => by rw [← hk]; exact implCubicTime_any l o w
    have ST : Hid (∀ w : World, Calls Try.prog 33 #[.int .i64 l, .int .i64 o] w fun e w' => e = .returned (.int .i64 k) ∧ w' = w) := fun w => by rw [← hk]; exact specCubicTime_any l o w
    by_cases h : (w10B l = true ∧ w10B o = true) ∧ ms10B m = true
    · have hlaw := fun p hp => curve_law (p := p) h hp
      rw [hk] at hlaw
      obtain ⟨⟨l0, l1⟩, o0, o1⟩ := And.intro (win_num h.1.1) (win_num h.1.2)
      obtain ⟨m0, m1⟩ := ms_num h.2
      clear h
      obtain ⟨x, hx⟩ : ∃ x, cubAtOf l o m = x := ⟨_, rfl⟩
      obtain ⟨a, ha⟩ : ∃ a, cubAtOf l o 0 = a := ⟨_, rfl⟩
      obtain ⟨z, hz⟩ : ∃ z, cubAtOf l o k = z := ⟨_, rfl⟩
      rw [hx, ha, hz] at hlaw
      have H1 : Hid (∀ w : World, Calls Try.prog 30 #[.int .i64 l, .int .i64 o, .int .i64 m] w fun e w' => e = .returned (.int .i64 x) ∧ Below w.heap.size w w') := fun w => by rw [← hx]; exact implCubicAt_any l o m w
      have S1 : Hid (∀ w : World, Calls Try.prog 32 #[.int .i64 l, .int .i64 o, .int .i64 m] w fun e w' => e = .returned (.int .i64 x) ∧ w' = w) := fun w => by rw [← hx]; exact specCubicAt_any l o m w
      have H0 : Hid (∀ w : World, Calls Try.prog 30 #[.int .i64 l, .int .i64 o, .int .i64 0] w fun e w' => e = .returned (.int .i64 a) ∧ Below w.heap.size w w') := fun w => by rw [← ha]; exact implCubicAt_any l o 0 w
      have H2 : Hid (∀ w : World, Calls Try.prog 30 #[.int .i64 l, .int .i64 o, .int .i64 k] w fun e w' => e = .returned (.int .i64 z) ∧ Below w.heap.size w w') := fun w => by rw [← hz]; exact implCubicAt_any l o k w
      have HL : Hid (∀ p : Int, 0 ≤ p → 0 ≤ x ∧ (x ≤ cubAtOf l o (m + p) ∨ cubAtOf l o (m + p) = -1) ∧ z = l ∧ ((l ≤ o ∧ a = l) ∨ (o < l ∧ o ≤ a ∧ a ≤ l))) := hlaw
      obtain ⟨x0, _, hzl, hal⟩ := hlaw 0 (by omega)
      have x0' : ¬ x < 0 := by omega
      clear hlaw hx ha hz hk
      subst hzl
      go_upto_region 11 with (first
        | (go_at_call 30; have g1 := im1; refine (implCubicAt_any z o (m + p) _).mono ?_; rintro e w5 ⟨rfl, hb5⟩; have hbw := below_stepx hbw hb5; have hM := (HL.out p hp0).2.1; obtain ⟨y, hy⟩ : ∃ y, cubAtOf z o (m + p) = y := ⟨_, rfl⟩; rw [hy] at hM ⊢; clear hy)
        | (go_at_call 30; refine (H1.out _).mono ?_; rintro e w2 ⟨rfl, hb2⟩; have hbw := below_stepx hbw hb2; have im1 := hbw)
        | (go_at_call 31; refine (HT.out _).mono ?_; rintro e w3 ⟨rfl, hb3⟩; have hbw := below_stepx hbw hb3)
        | (go_at_call 34; refine (pickN_any cap0 1000 (by omega) (by omega) (by omega) (row.mono hbw)).mono ?_; rintro e w2 ⟨p, rfl, hp0, hp1, hp2, rfl⟩; have ew : IntKind.i64.wrap (m + p) = m + p := (by rw [IntKind.wrap_i64]; omega))
        | (go_at_call 32; refine (S1.out _).mono ?_; rintro e w2 ⟨rfl, rfl⟩)
        | (go_at_call 33; refine (ST.out _).mono ?_; rintro e w2 ⟨rfl, rfl⟩))
      clear H1 S1 HL
      have hM' : decide (x ≤ y) = true ∨ (decide (x ≤ y) = false ∧ y = -1) := by
        rcases hM with h | h
        · exact .inl (decide_eq_true h)
        · exact .inr ⟨decide_eq_false (by omega), h⟩
      clear hM
      rcases hal with ⟨ho, rfl⟩ | ⟨ho, ha0, ha1⟩
      · have ho' : decide (a ≤ o) = true := decide_eq_true ho
        rcases hM' with hM | ⟨hM, rfl⟩
        all_goals go_wp2_with (first
          | (go_at_call 30; have g2 := im2; refine (H2.out _).mono ?_; rintro e w7 ⟨rfl, hb7⟩; have hbw := below_stepx hbw hb7)
          | (go_at_call 30; refine (H0.out _).mono ?_; rintro e w6 ⟨rfl, hb6⟩; have hbw := below_stepx hbw hb6; have im2 := hbw))
        all_goals go_ret
        all_goals exact ⟨rfl, hbw⟩
      · have ho' : decide (z ≤ o) = false := decide_eq_false (by omega)
        have ho'' : decide (o < z) = true := decide_eq_true ho
        have ed : (z - o).tdiv 1000 = (z - o) / 1000 := Int.tdiv_eq_ediv_of_nonneg (by omega)
        have e1 : IntKind.i64.wrap (z - o) = z - o := by rw [IntKind.wrap_i64]; omega
        have e2 : IntKind.i64.wrap ((z - o) / 1000) = (z - o) / 1000 := by rw [IntKind.wrap_i64]; omega
        have e3 : IntKind.i64.wrap (o - (z - o) / 1000) = o - (z - o) / 1000 := by rw [IntKind.wrap_i64]; omega
        have e4 : IntKind.i64.wrap (o - (z - o) / 1000 - 10) = o - (z - o) / 1000 - 10 := by rw [IntKind.wrap_i64]; omega
        have e5 : decide (o - (z - o) / 1000 - 10 ≤ a) = true := decide_eq_true (by omega)
        have e6 : decide (a ≤ z) = true := decide_eq_true ha1
        rcases hM' with hM | ⟨hM, rfl⟩
        all_goals go_wp2_with (first
          | (go_at_call 30; have g2 := im2; refine (H2.out _).mono ?_; rintro e w7 ⟨rfl, hb7⟩; have hbw := below_stepx hbw hb7)
          | (go_at_call 30; refine (H0.out _).mono ?_; rintro e w6 ⟨rfl, hb6⟩; have hbw := below_stepx hbw hb6; have im2 := hbw))
        all_goals go_ret
        all_goals exact ⟨rfl, hbw⟩
    · have e : cubAtOf l o m = -1 := if_neg h
      have H1 : Hid (∀ w : World, Calls Try.prog 30 #[.int .i64 l, .int .i64 o, .int .i64 m] w fun e w' => e = .returned (.int .i64 (-1)) ∧ Below w.heap.size w w') := fun w => by rw [← e]; exact implCubicAt_any l o m w
      have S1 : Hid (∀ w : World, Calls Try.prog 32 #[.int .i64 l, .int .i64 o, .int .i64 m] w fun e w' => e = .returned (.int .i64 (-1)) ∧ w' = w) := fun w => by rw [← e]; exact specCubicAt_any l o m w
      clear h e hk
      go_wp2_with (first
        | (go_at_call 30; refine (H1.out _).mono ?_; rintro e w2 ⟨rfl, hb2⟩; have hbw := below_stepx hbw hb2; have im1 := hbw)
        | (go_at_call 31; refine (HT.out _).mono ?_; rintro e w3 ⟨rfl, hb3⟩; have hbw := below_stepx hbw hb3)
        | (go_at_call 32; refine (S1.out _).mono ?_; rintro e w2 ⟨rfl, rfl⟩)
        | (go_at_call 33; refine (ST.out _).mono ?_; rintro e w2 ⟨rfl, rfl⟩))
      go_ret
      exact ⟨rfl, hbw⟩
  · have hbig : (4096 : Int) < (len0 : Int) := by omega
    go_enter Try.func6, Try.ntmps6
    go_wp2
    go_ret
    exact ⟨rfl, Below.refl _ _⟩

/-! ### THE ROW's STEP: WRITTEN OUT: LEAVE IT -/
set_option maxRecDepth 100000 in
theorem lifted (os : Os) (started : os.Started) (H : Type) (enc : TypeId × Value → H) :
    ReturnsInHanded {} Try.checked os 6 .any (Rows.fnCurveSpec.pre6 enc Try.prog Try.f6 Rows.fnCurveRow.domain false) (Rows.fnCurveSpec.post enc Try.prog Try.f6 false true false false) := by
  refine returnsInHanded_of_change (C := Try.checked) own started (by kernel_rfl) Try.func6
    (ChangeSpec.witness6 (enc := enc) (C := Try.checked) false ⟨#[], #[.slice none 0 0], []⟩ 8 (by kernel_rfl) (by kernel_rfl) (by kernel_rfl) (by kernel_rfl)) ?_
  intro W base args ds gs before hval0 hW hcnd _
  have hval : ∀ (j : Nat) t v, Try.f6.params[j]? = some t → args[j]? = some v → Value.okWide Try.prog W .any base t v := hval0
  have hW' := hW
  obtain ⟨p, q, hA0, hV, rfl, hfz, hnd⟩ := hW
  have hA : DataW.TrodAll enc Try.prog W 0 (fun _ => true) true Try.f6.params.toList args.toList ds p := hA0
  rw [Try.params6] at hA hval
  obtain ⟨v0, vs0, d0, ds0, p0, q0, hargs, rfl, rfl, h0, r0⟩ := trodAll_cons hA
  obtain ⟨rfl, rfl, rfl⟩ := trodAll_nil r0
  obtain rfl : args = #[v0] := by cases args; simp_all
  obtain ⟨rfl, rfl⟩ := trodVars_none hV
  obtain ⟨a0, len0, cap0, rfl⟩ := okWide_slice Try.underlying22 (hval 0 22 v0 rfl rfl)
  have k0 := h0
  have lt0 : ∀ x ∈ p0, x.block < W.heap.size := by obtain ⟨m, hm⟩ := k0; exact DataW.trod_lt m _ _ _ hm
  obtain ⟨z0, w0⟩ : ∃ zs, IsRow .u8 W a0 len0 cap0 zs := by
    obtain ⟨fuel, hf⟩ := h0
    rcases open_ints Try.underlying22 Try.underlying5 (by kernel_rfl) hf with ⟨hcs, _⟩ | ⟨x, l, c, zs, hcs, _, hl, hm, hz, _, hcell, hwz⟩
    · simp [Value.cells] at hcs
      obtain ⟨rfl, rfl, rfl⟩ := hcs
      exact ⟨[], .inl ⟨rfl, rfl, rfl, rfl⟩⟩
    · simp [Value.cells] at hcs
      obtain ⟨rfl, rfl, rfl⟩ := hcs
      exact ⟨zs, .inr ⟨_, rfl, hl, hm, by simpa using hz, hcell, hwz⟩⟩
  clear hA0 hval0
  refine (walk a0 len0 cap0 z0 W w0).mono fun e W' ⟨he, bel⟩ => ?_
  subst he
  exact ⟨_, rfl, _, _, _, [], _, [], hW', trodAll_mk1 (shut_bool Try.underlying4 _), (trodAll_cons_mk (Below.trod laidOut (by kernel_rfl) (of_decide_eq_true (by kernel_rfl)) k0 bel lt0) trodAll_mk0), rfl, bel.frame _, fun h => by cases h⟩

theorem over : Rows.fnCurveRow.holds Try.pinned (OpenSpec.ofChange Rows.fnCurveSpec) :=
  OpenClaim.holds_of_wide 6 Try.f6 rfl rfl rfl rfl rfl rfl rfl ⟨rfl, rfl, rfl, rfl, rfl⟩ rfl rfl rfl rfl rfl (by kernel_rfl) Try.func6 (by kernel_rfl)
    (of_decide_eq_true (by kernel_rfl)) (by unfold Func.isWrapper; first | (rw [if_pos (by decide +kernel)]; kernel_rfl) | (rw [if_neg (by decide +kernel)]; exact ⟨rfl, rfl⟩))
    (fun os started H enc _ => lifted os started H enc)

/-- ████ THE STATEMENT ████ -/
theorem proved : Rows.FnCurveSaid := over
#print axioms proved
end Go.Proofs.Ytmophpbfaonfmae.fnCurve
namespace Go.Proofs.Ytmophpbfaonfmae
theorem fnCurve_holds : Rows.FnCurveSaid := fnCurve.proved
#print axioms fnCurve_holds
end Go.Proofs.Ytmophpbfaonfmae
