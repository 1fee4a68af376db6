/- Proved: whatever the bytes, the law FnReadings returns true (Least and Most are the two readings, Ratio is never no number, and all three are as spec has them), and the bytes read as before; no condition. -/
import Derived.Test.YtnffbnnkcdgckaaRows
import Derived.WalkKit
import Derived.ProofKit
import Derived.OpenShut
import Derived.ShutString
import Derived.ChangeOld
import Derived.Below
import Derived.Test.YtnffbnnkcdgckaaImplRead
import Derived.Test.YtnffbnnkcdgckaaLike
import Derived.Test.YtnffbnnkcdgckaaDrawF
namespace Go.Proofs.Ytnffbnnkcdgckaa.fnReadings
open Go.ChangeShapes Go.WideShapes Go.ChangeAt Go.RowKit
open Go.ChangeMaps (open_string shut_string)
set_option linter.unusedVariables false

theorem own : ownKnob Try.prog.godebug = none := by kernel_rfl
theorem laidOut : laidOutB Try.prog = true := by kernel_rfl

/-- WHAT THE WALK IS TOLD OF A SLICE OF INTEGERS THAT CAME IN: it is nil; or it leads to a row of 'cap' cells, the numbers 'zs' (the first 'len' are its elements, the rest its spare room), each fitting its kind. -/
def IsRow (k : IntKind) (w : World) (a : Option Addr) (len cap : Nat) (zs : List Int) : Prop :=
  (a = none ∧ len = 0 ∧ cap = 0 ∧ zs = []) ∨
  ∃ x, a = some x ∧ len ≤ cap ∧ cap ≤ maxLen ∧ zs.length = cap ∧ (∀ i, i < zs.length → w.cell? (x.add i) = some (.int k (zs.getD i 0))) ∧ ∀ n ∈ zs, (Lit.int k n).wf = true

theorem row_of {w : World} {a : Option Addr} {len cap : Nat} {zs : List Int} (h : IsRow .u8 w a len cap zs) : Row w.heap.size a len w := by
  intro i hi
  rcases h with ⟨rfl, rfl, rfl, rfl⟩ | ⟨x, rfl, hl, hm, hz, hcell, hwz⟩
  · omega
  · obtain ⟨b, off, spot⟩ := x
    have hspot : spot = none := by simpa [Addr.add] using World.cell?_spot (hcell 0 (by omega))
    subst hspot
    have hc := hcell i (by omega)
    have hc' : w.cell? ⟨b, off + i, none⟩ = some (.int .u8 (zs.getD i 0)) := by
      by_cases h0 : i = 0
      · subst h0; simpa [Addr.add] using hc
      · simpa [Addr.add, h0] using hc
    have hlt : i < zs.length := by omega
    have hm : zs.getD i 0 ∈ zs := by simp [List.getD, List.getElem?_eq_getElem hlt]
    obtain ⟨z0, z1⟩ := bounds_u8 (hwz _ hm)
    exact ⟨b, off, zs.getD i 0, rfl, World.block_lt_of_cell? w _ hc', hc', z0, z1⟩
theorem below_step {w w1 w2 : World} (h : Below w.heap.size w w1) (k : Below w1.heap.size w1 w2) : Below w.heap.size w w2 := h.trans (k.mono h.size)
theorem likeB_self (a : Nat) : likeB a a = true := by
  unfold likeB
  split
  · rename_i h; rcases h with h | h <;> rw [h] <;> rfl
  · exact decide_eq_true rfl
theorem likeB_num {a b : Nat} (ha : isNan a = false) (hb : isNan b = false) (h : a ≠ b) : likeB a b = false := by
  unfold likeB; rw [if_neg (by rw [ha, hb]; simp)]; exact decide_eq_false h
/-- Both words in turn: which is the lesser, which the greater, and how they are alike. -/
theorem read_cases (a b : Nat) (la : a < 18446744073709551616) (lb : b < 18446744073709551616) :
    (isNan a = true ∧ isNan b = true ∧ leastW a b = b ∧ leastW b a = a ∧ mostW a b = b ∧ mostW b a = a ∧ likeB a b = true ∧ likeB b a = true) ∨
    (isNan a = true ∧ isNan b = false ∧ leastW a b = b ∧ leastW b a = b ∧ mostW a b = b ∧ mostW b a = b ∧ likeB b a = false) ∨
    (isNan a = false ∧ isNan b = true ∧ leastW a b = a ∧ leastW b a = a ∧ mostW a b = a ∧ mostW b a = a ∧ likeB a b = false) ∨
    (isNan a = false ∧ isNan b = false ∧ leastW a b = a ∧ leastW b a = a ∧ mostW a b = b ∧ mostW b a = b ∧ key a ≤ key b) ∨
    (isNan a = false ∧ isNan b = false ∧ leastW a b = b ∧ leastW b a = b ∧ mostW a b = a ∧ mostW b a = a ∧ key b ≤ key a ∧ likeB b a = false) := by
  cases ha : isNan a <;> cases hb : isNan b
  · rcases Int.lt_trichotomy (key a) (key b) with h | h | h
    · exact .inr (.inr (.inr (.inl ⟨rfl, rfl, leastW_lt ha hb h, leastW_gt hb ha h, mostW_lt ha hb h, mostW_gt hb ha h, by omega⟩)))
    · by_cases he : a = b
      · subst he
        exact .inr (.inr (.inr (.inl ⟨rfl, rfl, leastW_same a, leastW_same a, mostW_same a, mostW_same a, by omega⟩)))
      · have hz : rung a = 0 ∧ rung b = 0 := by rcases key_inj la lb h with h' | h'; exact absurd h' he; exact h'
        rcases nought_cases la hz.1 with rfl | rfl <;> rcases nought_cases lb hz.2 with rfl | rfl
        · exact absurd rfl he
        · exact .inr (.inr (.inr (.inr ⟨rfl, rfl, by decide, by decide, by decide, by decide, by decide, likeB_num hb ha (by decide)⟩)))
        · exact .inr (.inr (.inr (.inl ⟨rfl, rfl, by decide, by decide, by decide, by decide, by decide⟩)))
        · exact absurd rfl he
    · exact .inr (.inr (.inr (.inr ⟨rfl, rfl, leastW_gt ha hb h, leastW_lt hb ha h, mostW_gt ha hb h, mostW_lt hb ha h, by omega, likeB_num hb ha (by intro e; rw [e] at h; omega)⟩)))
  · exact .inr (.inr (.inl ⟨rfl, rfl, leastW_nanr ha hb, leastW_nanl hb, mostW_nanr ha hb, mostW_nanl hb, by unfold likeB; rw [if_pos (.inr hb), ha]; rfl⟩))
  · exact .inr (.inl ⟨rfl, rfl, leastW_nanl ha, leastW_nanr hb ha, mostW_nanl ha, mostW_nanr hb ha, by unfold likeB; rw [if_pos (.inr ha), hb]; rfl⟩)
  · exact .inl ⟨rfl, rfl, leastW_nanl ha, leastW_nanl hb, mostW_nanl ha, mostW_nanl hb, by unfold likeB; rw [if_pos (.inl ha), ha, hb]; rfl, by unfold likeB; rw [if_pos (.inl hb), ha, hb]; rfl⟩
theorem order_le {a b : Nat} (ha : isNan a = false) (hb : isNan b = false) (h : key a ≤ key b) : FloatKind.f64.format.order a b = some .lt ∨ FloatKind.f64.format.order a b = some .eq := by
  rcases Int.lt_or_eq_of_le h with h | h
  · exact .inl (order_lt ha hb h)
  · exact .inr (order_eq ha hb h)
/-- The same, with the order's answers. -/
theorem read_orders (a b : Nat) (la : a < 18446744073709551616) (lb : b < 18446744073709551616) :
    (leastW a b = b ∧ leastW b a = a ∧ mostW a b = b ∧ mostW b a = a ∧ likeB a b = true ∧ likeB b a = true ∧ FloatKind.f64.format.order a a = none) ∨
    (leastW a b = b ∧ leastW b a = b ∧ mostW a b = b ∧ mostW b a = b ∧ likeB b a = false ∧ FloatKind.f64.format.order a a = none) ∨
    (leastW a b = a ∧ leastW b a = a ∧ mostW a b = a ∧ mostW b a = a ∧ FloatKind.f64.format.order a a = some .eq ∧ FloatKind.f64.format.order b b = none) ∨
    (leastW a b = a ∧ leastW b a = a ∧ mostW a b = b ∧ mostW b a = b ∧ FloatKind.f64.format.order a a = some .eq ∧ FloatKind.f64.format.order b b = some .eq ∧ (FloatKind.f64.format.order a b = some .lt ∨ FloatKind.f64.format.order a b = some .eq)) ∨
    (leastW a b = b ∧ leastW b a = b ∧ mostW a b = a ∧ mostW b a = a ∧ likeB b a = false ∧ FloatKind.f64.format.order a a = some .eq ∧ FloatKind.f64.format.order b b = some .eq ∧ (FloatKind.f64.format.order b a = some .lt ∨ FloatKind.f64.format.order b a = some .eq)) := by
  rcases read_cases a b la lb with ⟨na, nb, e1, e2, e3, e4, k1, k2⟩ | ⟨na, nb, e1, e2, e3, e4, k1⟩ | ⟨na, nb, e1, e2, e3, e4, k1⟩ | ⟨na, nb, e1, e2, e3, e4, k1⟩ | ⟨na, nb, e1, e2, e3, e4, k1, k2⟩
  · exact .inl ⟨e1, e2, e3, e4, k1, k2, order_none (.inl na)⟩
  · exact .inr (.inl ⟨e1, e2, e3, e4, k1, order_none (.inl na)⟩)
  · exact .inr (.inr (.inl ⟨e1, e2, e3, e4, order_self na, order_none (.inl nb)⟩))
  · exact .inr (.inr (.inr (.inl ⟨e1, e2, e3, e4, order_self na, order_self nb, order_le na nb k1⟩)))
  · exact .inr (.inr (.inr (.inr ⟨e1, e2, e3, e4, k2, order_self na, order_self nb, order_le nb na k1⟩)))
theorem ratio_num (a b : Nat) : isNan ((Ieee.double.div a b).getD 0) = false ∧ (Ieee.double.div a b).getD 0 < 18446744073709551616 := by
  cases h : Ieee.double.div a b with
  | none => exact ⟨by decide, by decide⟩
  | some r => exact ⟨arith_ok (op := .quo) h, Ieee.double.div_lt h⟩

/-! ### STEP 1: THE WALK: the Go text returns true, AND WRITES NOTHING THAT WAS THERE: 'Below w.heap.size w w'' (Derived/Below.lean: '.refl', '.alloc', '.drew', '.setCell' at a new block, '.trans'). Open each 'IsRow' by 'rcases' AHEAD of 'go_enter'; part every test ahead of the walk. -/
set_option maxHeartbeats 4000000 in
theorem walk (a0 : Option Addr) (len0 cap0 : Nat) (z0 : List Int) (w : World) (w0 : IsRow .u8 w a0 len0 cap0 z0) :
    Calls Try.prog 7 #[.slice a0 len0 cap0] w fun e w' => e = .returned (.bool true) ∧ Below w.heap.size w w' := by
  have row := row_of w0
  by_cases hs : len0 ≤ 4096
  · go_enter Try.func7, Try.ntmps7
    go_wp2_with (first
      | (go_at_call 24; refine (drawLeast_any cap0 hs row (Nat.le_refl _)).mono ?_; rintro e w1 ⟨a, b, rfl, la, lb, hb⟩; have s1 := likeB_self a; have s2 := likeB_self b; obtain ⟨nq, lq⟩ := ratio_num a b; obtain ⟨q, hq⟩ : ∃ q, (Ieee.double.div a b).getD 0 = q := ⟨_, rfl⟩; rw [hq] at nq lq; have s3 := likeB_self q; have oq := order_self nq; clear nq; rcases read_orders a b la lb with ⟨e1, e2, e3, e4, k1, k2, oa⟩ | ⟨e1, e2, e3, e4, k1, oa⟩ | ⟨e1, e2, e3, e4, oa, ob⟩ | ⟨e1, e2, e3, e4, oa, ob, oc | oc⟩ | ⟨e1, e2, e3, e4, k1, oa, ob, oc | oc⟩)
      | (go_at_call 25; refine (implLeast_any _ _ _ (by assumption) (by assumption)).mono ?_; rintro e w2 ⟨rfl, rfl⟩)
      | (go_at_call 28; refine (specLeast_any _ _ _ (by assumption) (by assumption)).mono ?_; rintro e w2 ⟨rfl, rfl⟩)
      | (go_at_call 26; refine (implMost_any _ _ _ (by assumption) (by assumption)).mono ?_; rintro e w2 ⟨rfl, rfl⟩)
      | (go_at_call 29; refine (specMost_any _ _ _ (by assumption) (by assumption)).mono ?_; rintro e w2 ⟨rfl, rfl⟩)
      | (go_at_call 30; refine (implRatio_any _ _ _).mono ?_; rintro e w2 ⟨rfl, hb2⟩; have hb := below_step hb hb2)
      | (go_at_call 31; refine (specRatio_any _ _ _).mono ?_; rintro e w2 ⟨rfl, hb2⟩; have hb := below_step hb hb2)
      | (go_at_call 27; refine (like_any _ _ _ (by assumption) (by assumption)).mono ?_; rintro e w2 ⟨rfl, rfl⟩)
      | go_in)
    all_goals go_ret
    all_goals exact ⟨rfl, hb⟩
  · have hbig : (4096 : Int) < (len0 : Int) := by omega
    go_enter Try.func7, Try.ntmps7
    go_wp2
    go_ret
    exact ⟨rfl, Below.refl _ _⟩

/-! ### THE ROW's STEP: WRITTEN OUT: LEAVE IT -/
set_option maxRecDepth 100000 in
theorem lifted (os : Os) (started : os.Started) (H : Type) (enc : TypeId × Value → H) :
    ReturnsInHanded {} Try.checked os 7 .any (Rows.fnReadingsSpec.pre6 enc Try.prog Try.f7 Rows.fnReadingsRow.domain false) (Rows.fnReadingsSpec.post enc Try.prog Try.f7 false true false false) := by
  refine returnsInHanded_of_change (C := Try.checked) own started (by kernel_rfl) Try.func7
    (ChangeSpec.witness6 (enc := enc) (C := Try.checked) false ⟨#[], #[.slice none 0 0], []⟩ 8 (by kernel_rfl) (by kernel_rfl) (by kernel_rfl) (by kernel_rfl)) ?_
  intro W base args ds gs before hval0 hW hcnd _
  have hval : ∀ (j : Nat) t v, Try.f7.params[j]? = some t → args[j]? = some v → Value.okWide Try.prog W .any base t v := hval0
  have hW' := hW
  obtain ⟨p, q, hA0, hV, rfl, hfz, hnd⟩ := hW
  have hA : DataW.TrodAll enc Try.prog W 0 (fun _ => true) true Try.f7.params.toList args.toList ds p := hA0
  rw [Try.params7] at hA hval
  obtain ⟨v0, vs0, d0, ds0, p0, q0, hargs, rfl, rfl, h0, r0⟩ := trodAll_cons hA
  obtain ⟨rfl, rfl, rfl⟩ := trodAll_nil r0
  obtain rfl : args = #[v0] := by cases args; simp_all
  obtain ⟨rfl, rfl⟩ := trodVars_none hV
  obtain ⟨a0, len0, cap0, rfl⟩ := okWide_slice Try.underlying22 (hval 0 22 v0 rfl rfl)
  have k0 := h0
  have lt0 : ∀ x ∈ p0, x.block < W.heap.size := by obtain ⟨m, hm⟩ := k0; exact DataW.trod_lt m _ _ _ hm
  obtain ⟨z0, w0⟩ : ∃ zs, IsRow .u8 W a0 len0 cap0 zs := by
    obtain ⟨fuel, hf⟩ := h0
    rcases open_ints Try.underlying22 Try.underlying5 (by kernel_rfl) hf with ⟨hcs, _⟩ | ⟨x, l, c, zs, hcs, _, hl, hm, hz, _, hcell, hwz⟩
    · simp [Value.cells] at hcs
      obtain ⟨rfl, rfl, rfl⟩ := hcs
      exact ⟨[], .inl ⟨rfl, rfl, rfl, rfl⟩⟩
    · simp [Value.cells] at hcs
      obtain ⟨rfl, rfl, rfl⟩ := hcs
      exact ⟨zs, .inr ⟨_, rfl, hl, hm, by simpa using hz, hcell, hwz⟩⟩
  clear hA0 hval0
  refine (walk a0 len0 cap0 z0 W w0).mono fun e W' ⟨he, bel⟩ => ?_
  subst he
  exact ⟨_, rfl, _, _, _, [], _, [], hW', trodAll_mk1 (shut_bool Try.underlying4 _), (trodAll_cons_mk (Below.trod laidOut (by kernel_rfl) (of_decide_eq_true (by kernel_rfl)) k0 bel lt0) trodAll_mk0), rfl, bel.frame _, fun h => by cases h⟩

theorem over : Rows.fnReadingsRow.holds Try.pinned (OpenSpec.ofChange Rows.fnReadingsSpec) :=
  OpenClaim.holds_of_wide 7 Try.f7 rfl rfl rfl rfl rfl rfl rfl ⟨rfl, rfl, rfl, rfl, rfl⟩ rfl rfl rfl rfl rfl (by kernel_rfl) Try.func7 (by kernel_rfl)
    (of_decide_eq_true (by kernel_rfl)) (by unfold Func.isWrapper; first | (rw [if_pos (by decide +kernel)]; kernel_rfl) | (rw [if_neg (by decide +kernel)]; exact ⟨rfl, rfl⟩))
    (fun os started H enc _ => lifted os started H enc)

/-- ████ THE STATEMENT ████ -/
theorem proved : Rows.FnReadingsSaid := over
#print axioms proved
end Go.Proofs.Ytnffbnnkcdgckaa.fnReadings
namespace Go.Proofs.Ytnffbnnkcdgckaa
theorem fnReadings_holds : Rows.FnReadingsSaid := fnReadings.proved
#print axioms fnReadings_holds
end Go.Proofs.Ytnffbnnkcdgckaa
