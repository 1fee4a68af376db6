/- Proved: whatever the bytes, the law FnSmoothed returns true (Smooth is as spec has it; whole numbers smoothed by 0, by 1 and by a half come to the first, the second and their mean; a whole number is a rate where it is not below 0), and the bytes read as before; no condition. -/
import Derived.Test.YtnffbnnkcdgckabRows
import Derived.WalkKit
import Derived.ProofKit
import Derived.OpenShut
import Derived.ShutString
import Derived.ChangeOld
import Derived.Below
import Derived.Test.YtnffbnnkcdgckabWhole
import Derived.Test.YtnffbnnkcdgckabPush
import Derived.Test.YtnffbnnkcdgckabLike
import Derived.Test.YtnffbnnkcdgckabDrawF
namespace Go.Proofs.Ytnffbnnkcdgckab.fnSmoothed
open Go.ChangeShapes Go.WideShapes Go.ChangeAt Go.RowKit
open Go.ChangeMaps (open_string shut_string)
set_option linter.unusedVariables false

theorem own : ownKnob Try.prog.godebug = none := by kernel_rfl
theorem laidOut : laidOutB Try.prog = true := by kernel_rfl

/-- WHAT THE WALK IS TOLD OF A SLICE OF INTEGERS THAT CAME IN: it is nil; or it leads to a row of 'cap' cells, the numbers 'zs' (the first 'len' are its elements, the rest its spare room), each fitting its kind. -/
def IsRow (k : IntKind) (w : World) (a : Option Addr) (len cap : Nat) (zs : List Int) : Prop :=
  (a = none ∧ len = 0 ∧ cap = 0 ∧ zs = []) ∨
  ∃ x, a = some x ∧ len ≤ cap ∧ cap ≤ maxLen ∧ zs.length = cap ∧ (∀ i, i < zs.length → w.cell? (x.add i) = some (.int k (zs.getD i 0))) ∧ ∀ n ∈ zs, (Lit.int k n).wf = true

theorem row_of {w : World} {a : Option Addr} {len cap : Nat} {zs : List Int} (h : IsRow .u8 w a len cap zs) : Row w.heap.size a len w := by
  intro i hi
  rcases h with ⟨rfl, rfl, rfl, rfl⟩ | ⟨x, rfl, hl, hm, hz, hcell, hwz⟩
  · omega
  · obtain ⟨b, off, spot⟩ := x
    have hspot : spot = none := by simpa [Addr.add] using World.cell?_spot (hcell 0 (by omega))
    subst hspot
    have hc := hcell i (by omega)
    have hc' : w.cell? ⟨b, off + i, none⟩ = some (.int .u8 (zs.getD i 0)) := by
      by_cases h0 : i = 0
      · subst h0; simpa [Addr.add] using hc
      · simpa [Addr.add, h0] using hc
    have hlt : i < zs.length := by omega
    have hm : zs.getD i 0 ∈ zs := by simp [List.getD, List.getElem?_eq_getElem hlt]
    obtain ⟨z0, z1⟩ := bounds_u8 (hwz _ hm)
    exact ⟨b, off, zs.getD i 0, rfl, World.block_lt_of_cell? w _ hc', hc', z0, z1⟩
theorem below_step {w w1 w2 : World} (h : Below w.heap.size w w1) (k : Below w1.heap.size w1 w2) : Below w.heap.size w w2 := h.trans (k.mono h.size)
theorem likeB_self (a : Nat) : likeB a a = true := by
  unfold likeB
  split
  · rename_i h; rcases h with h | h <;> rw [h] <;> rfl
  · exact decide_eq_true rfl
theorem likeB_nans {a b : Nat} (ha : isNan a = true) (hb : isNan b = true) : likeB a b = true := by
  unfold likeB; rw [if_pos (.inl ha), ha, hb]; rfl
theorem smoothO_lt {o x p r : Nat} (lo : o < 18446744073709551616) (lx : x < 18446744073709551616) (h : smoothO o x p = some r) : r < 18446744073709551616 := by
  unfold smoothO at h
  split at h
  · cases h; exact lx
  · split at h
    · cases h; exact lo
    · obtain ⟨d, _, h2⟩ := Option.bind_eq_some_iff.1 h
      obtain ⟨q, _, h3⟩ := Option.bind_eq_some_iff.1 h2
      exact Ieee.double.add_lt h3
theorem nil_of {w : World} {a : Option Addr} {len cap : Nat} {zs : List Int} (h : IsRow .u8 w a len cap zs) : a = none → len = 0 ∧ cap = 0 := by
  rintro rfl
  rcases h with ⟨_, h1, h2, _⟩ | ⟨x, h, _⟩
  · exact ⟨h1, h2⟩
  · cases h
theorem one_owned (w : World) {B : Nat} (hB : B ≤ w.heap.size) : (w.alloc (.cells #[.int .u8 1] 5)).ownsRow B 5 1 (.slice (some ⟨w.heap.size, 0, none⟩) 1 1) 1 [.int .u8 1] :=
  ⟨rfl, .inr ⟨w.heap.size, 1, _, rfl, hB, heap_alloc_new w _, Nat.le_refl _, by unfold maxLen; omega, rfl, rfl⟩⟩

/-! ### STEP 1: THE WALK: the Go text returns true, AND WRITES NOTHING THAT WAS THERE: 'Below w.heap.size w w'' (Derived/Below.lean: '.refl', '.alloc', '.drew', '.setCell' at a new block, '.trans'). Open each 'IsRow' by 'rcases' AHEAD of 'go_enter'; part every test ahead of the walk. -/
set_option maxHeartbeats 4000000 in
theorem walk (a0 : Option Addr) (len0 cap0 : Nat) (z0 : List Int) (w : World) (w0 : IsRow .u8 w a0 len0 cap0 z0) :
    Calls Try.prog 3 #[.slice a0 len0 cap0] w fun e w' => e = .returned (.bool true) ∧ Below w.heap.size w w' := by
  have row := row_of w0
  have hnil : Hid (a0 = none → len0 = 0 ∧ cap0 = 0) := nil_of w0
  have cv := run_same_float
  clear w0
  by_cases hs : len0 ≤ 4096
  · go_enter Try.func3, Try.ntmps3
    go_wp2_with (first
      | (go_at_call 6; refine (drawSmooth_any cap0 hs row (Nat.le_refl _)).mono ?_; rintro e w1 ⟨a, b, p, rfl, la, lb, lp, hb⟩)
      | (go_at_call 9; refine (specSmooth_any _ _ _ _).mono ?_; rintro e w2 ⟨r, rfl, hr, hb2⟩; have HR : Hid (smoothO a b p = some r ∨ smoothO a b p = none ∧ isNan r = true) := hr; clear hr; have hb := below_step hb hb2)
      | (go_at_call 7; have g1 := o1; refine (smooth_half (x := k - 500) (y := k2 - 500) _ bk bk2 HX HY).mono ?_; rintro e w2 ⟨rh, m, s2, rfl, hm, hs2, oh, hb2⟩; have qm := fun w => run_float_arith (P := Try.prog) w .mul 24 .f64 _ _ _ hm; have qs := fun w => run_float_arith (P := Try.prog) w .add 24 .f64 _ _ _ hs2; clear hm hs2; have hb := below_step hb hb2)
      | (go_at_call 7; have g1 := o0; refine (smooth_one (x := k - 500) (y := k2 - 500) _ bk bk2 HX HY).mono ?_; rintro e w2 ⟨r1, rfl, o1, hb2⟩; have hb := below_step hb hb2)
      | (go_at_call 7; have g1 := HY; refine (smooth_zero (x := k - 500) (y := k2 - 500) _ bk bk2 HX HY).mono ?_; rintro e w2 ⟨r0, rfl, o0, hb2⟩; have hb := below_step hb hb2)
      | (go_at_call 7; refine (implSmooth_any a b p _).mono ?_; rintro e w2 ⟨s, rfl, ht, hb2⟩; have HT : Hid (smoothO a b p = some s ∨ smoothO a b p = none ∧ isNan s = true) := ht; clear ht; have hb := below_step hb hb2)
      | (go_at_call 10; refine (pick_any c1 (by omega) row2).mono ?_; rintro e w2 ⟨k2, rfl, k20, k21, rfl⟩; have bk2 : (k2 - 500).natAbs ≤ 500 := (by omega); obtain ⟨Y, eY⟩ : ∃ Y, floatOfInt .f64 (k2 - 500) = Y := ⟨_, rfl⟩; have HY : Hid (floatOfInt .f64 (k2 - 500) = Y) := eY; rcases rate_whole bk HX with ⟨rk, rn, ro⟩ | ⟨rk, rn, rs, ro | ro⟩)
      | (go_at_call 10; refine (pick_any cap0 (by omega) (row.mono hb)).mono ?_; rintro e w2 ⟨k, rfl, k0, k1, rfl⟩; have bk : (k - 500).natAbs ≤ 500 := (by omega); obtain ⟨X, eX⟩ : ∃ X, floatOfInt .f64 (k - 500) = X := ⟨_, rfl⟩; have HX : Hid (floatOfInt .f64 (k - 500) = X) := eX)
      | (go_at_call 11; refine (implToRate_any _ _).mono ?_; rintro e w2 ⟨rfl, hb2⟩; have hb := below_step hb hb2)
      | (at_builtin; refine wpList_push rfl _ _ rfl rfl rfl (one_owned _ (Nat.le_refl _)) ((row.mono (below_step hb (new_below _ _))).up hb.size) hnil.out hs (by simp) ?_; intro a1 c1 w3 row2 hb3; have hb := below_step hb ((new_below _ _).trans hb3))
      | (go_at_call 8; rcases HR.out with hr | ⟨hr, nr⟩ <;> rcases HT.out with ht | ⟨ht, nt⟩ <;> rw [hr] at ht <;> first | (cases ht; done) | (obtain rfl := Option.some.inj ht; have lk := likeB_self r; refine (like_any _ _ _ (smoothO_lt la lb hr) (smoothO_lt la lb hr)).mono ?_; rintro e w3 ⟨rfl, rfl⟩) | (have lk := likeB_nans nt nr; refine (like_nan _ _ _ (.inl nt)).mono ?_; rintro e w3 ⟨rfl, rfl⟩))
      | go_in)
    all_goals go_ret
    all_goals exact ⟨rfl, hb⟩
  · have hbig : (4096 : Int) < (len0 : Int) := by omega
    go_enter Try.func3, Try.ntmps3
    go_wp2
    go_ret
    exact ⟨rfl, Below.refl _ _⟩

/-! ### THE ROW's STEP: WRITTEN OUT: LEAVE IT -/
set_option maxRecDepth 100000 in
theorem lifted (os : Os) (started : os.Started) (H : Type) (enc : TypeId × Value → H) :
    ReturnsInHanded {} Try.checked os 3 .any (Rows.fnSmoothedSpec.pre6 enc Try.prog Try.f3 Rows.fnSmoothedRow.domain false) (Rows.fnSmoothedSpec.post enc Try.prog Try.f3 false true false false) := by
  refine returnsInHanded_of_change (C := Try.checked) own started (by kernel_rfl) Try.func3
    (ChangeSpec.witness6 (enc := enc) (C := Try.checked) false ⟨#[], #[.slice none 0 0], []⟩ 8 (by kernel_rfl) (by kernel_rfl) (by kernel_rfl) (by kernel_rfl)) ?_
  intro W base args ds gs before hval0 hW hcnd _
  have hval : ∀ (j : Nat) t v, Try.f3.params[j]? = some t → args[j]? = some v → Value.okWide Try.prog W .any base t v := hval0
  have hW' := hW
  obtain ⟨p, q, hA0, hV, rfl, hfz, hnd⟩ := hW
  have hA : DataW.TrodAll enc Try.prog W 0 (fun _ => true) true Try.f3.params.toList args.toList ds p := hA0
  rw [Try.params3] at hA hval
  obtain ⟨v0, vs0, d0, ds0, p0, q0, hargs, rfl, rfl, h0, r0⟩ := trodAll_cons hA
  obtain ⟨rfl, rfl, rfl⟩ := trodAll_nil r0
  obtain rfl : args = #[v0] := by cases args; simp_all
  obtain ⟨rfl, rfl⟩ := trodVars_none hV
  obtain ⟨a0, len0, cap0, rfl⟩ := okWide_slice Try.underlying22 (hval 0 22 v0 rfl rfl)
  have k0 := h0
  have lt0 : ∀ x ∈ p0, x.block < W.heap.size := by obtain ⟨m, hm⟩ := k0; exact DataW.trod_lt m _ _ _ hm
  obtain ⟨z0, w0⟩ : ∃ zs, IsRow .u8 W a0 len0 cap0 zs := by
    obtain ⟨fuel, hf⟩ := h0
    rcases open_ints Try.underlying22 Try.underlying5 (by kernel_rfl) hf with ⟨hcs, _⟩ | ⟨x, l, c, zs, hcs, _, hl, hm, hz, _, hcell, hwz⟩
    · simp [Value.cells] at hcs
      obtain ⟨rfl, rfl, rfl⟩ := hcs
      exact ⟨[], .inl ⟨rfl, rfl, rfl, rfl⟩⟩
    · simp [Value.cells] at hcs
      obtain ⟨rfl, rfl, rfl⟩ := hcs
      exact ⟨zs, .inr ⟨_, rfl, hl, hm, by simpa using hz, hcell, hwz⟩⟩
  clear hA0 hval0
  refine (walk a0 len0 cap0 z0 W w0).mono fun e W' ⟨he, bel⟩ => ?_
  subst he
  exact ⟨_, rfl, _, _, _, [], _, [], hW', trodAll_mk1 (shut_bool Try.underlying4 _), (trodAll_cons_mk (Below.trod laidOut (by kernel_rfl) (of_decide_eq_true (by kernel_rfl)) k0 bel lt0) trodAll_mk0), rfl, bel.frame _, fun h => by cases h⟩

theorem over : Rows.fnSmoothedRow.holds Try.pinned (OpenSpec.ofChange Rows.fnSmoothedSpec) :=
  OpenClaim.holds_of_wide 3 Try.f3 rfl rfl rfl rfl rfl rfl rfl ⟨rfl, rfl, rfl, rfl, rfl⟩ rfl rfl rfl rfl rfl (by kernel_rfl) Try.func3 (by kernel_rfl)
    (of_decide_eq_true (by kernel_rfl)) (by unfold Func.isWrapper; first | (rw [if_pos (by decide +kernel)]; kernel_rfl) | (rw [if_neg (by decide +kernel)]; exact ⟨rfl, rfl⟩))
    (fun os started H enc _ => lifted os started H enc)

/-- ████ THE STATEMENT ████ -/
theorem proved : Rows.FnSmoothedSaid := over
#print axioms proved
end Go.Proofs.Ytnffbnnkcdgckab.fnSmoothed
namespace Go.Proofs.Ytnffbnnkcdgckab
theorem fnSmoothed_holds : Rows.FnSmoothedSaid := fnSmoothed.proved
#print axioms fnSmoothed_holds
end Go.Proofs.Ytnffbnnkcdgckab
