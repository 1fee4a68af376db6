/- Proved: whatever the bytes, the law FnMulDiv returns true (impl.MulDiv is the exact quotient, rounded down, the same with its factors exchanged, and as spec.MulDiv has it), and the bytes read as before; no condition. -/
import Derived.Test.YtcacalfckflkmaaRows
import Derived.WalkKit
import Derived.ProofKit
import Derived.OpenShut
import Derived.ShutString
import Derived.ChangeOld
import Derived.Below
import Derived.Test.YtcacalfckflkmaaSpecMulDiv
import Derived.Test.YtcacalfckflkmaaDraws1m
namespace Go.Proofs.Ytcacalfckflkmaa.fnMulDiv
open Go.ChangeShapes Go.WideShapes Go.ChangeAt Go.RowKit
open Go.ChangeMaps (open_string shut_string)
set_option linter.unusedVariables false

theorem own : ownKnob Try.prog.godebug = none := by kernel_rfl
theorem laidOut : laidOutB Try.prog = true := by kernel_rfl

/-- WHAT THE WALK IS TOLD OF A SLICE OF INTEGERS THAT CAME IN: it is nil; or it leads to a row of 'cap' cells, the numbers 'zs' (the first 'len' are its elements, the rest its spare room), each fitting its kind. -/
def IsRow (k : IntKind) (w : World) (a : Option Addr) (len cap : Nat) (zs : List Int) : Prop :=
  (a = none ∧ len = 0 ∧ cap = 0 ∧ zs = []) ∨
  ∃ x, a = some x ∧ len ≤ cap ∧ cap ≤ maxLen ∧ zs.length = cap ∧ (∀ i, i < zs.length → w.cell? (x.add i) = some (.int k (zs.getD i 0))) ∧ ∀ n ∈ zs, (Lit.int k n).wf = true

theorem row_of {w : World} {a : Option Addr} {len cap : Nat} {zs : List Int} (h : IsRow .u8 w a len cap zs) : Row w.heap.size a len w := by
  intro i hi
  rcases h with ⟨rfl, rfl, rfl, rfl⟩ | ⟨x, rfl, hl, hm, hz, hcell, hwz⟩
  · omega
  · obtain ⟨b, off, spot⟩ := x
    have hspot : spot = none := by simpa [Addr.add] using World.cell?_spot (hcell 0 (by omega))
    subst hspot
    have hc := hcell i (by omega)
    have hc' : w.cell? ⟨b, off + i, none⟩ = some (.int .u8 (zs.getD i 0)) := by
      by_cases h0 : i = 0
      · subst h0; simpa [Addr.add] using hc
      · simpa [Addr.add, h0] using hc
    have hlt : i < zs.length := by omega
    have hm : zs.getD i 0 ∈ zs := by simp [List.getD, List.getElem?_eq_getElem hlt]
    obtain ⟨z0, z1⟩ := bounds_u8 (hwz _ hm)
    exact ⟨b, off, zs.getD i 0, rfl, World.block_lt_of_cell? w _ hc', hc', z0, z1⟩
theorem ret_bool {f : Bool} (h : f = true) : Ending.returned (.bool f) = .returned (.bool true) := by rw [h]
theorem below_step {w w1 w2 : World} (h : Below w.heap.size w w1) (k : Below w1.heap.size w1 w2) : Below w.heap.size w w2 := h.trans (k.mono h.size)
theorem md_cases (a b c : Int) (ha : a ≤ 9223372036854775807) : (mdOk a b c = false ∧ mdQ a b c = 0) ∨
    (mdOk a b c = true ∧ mdOk b a c = true ∧ mdQ b a c = mdQ a b c ∧ mdOk a c c = true ∧ mdQ a c c = a ∧ 1000000 < a) ∨
    (mdOk a b c = true ∧ mdOk b a c = true ∧ mdQ b a c = mdQ a b c ∧ mdOk a c c = true ∧ mdQ a c c = a ∧ a ≤ 1000000 ∧ 1000000 < b) ∨
    (mdOk a b c = true ∧ mdOk b a c = true ∧ mdQ b a c = a * b / c ∧ mdOk a c c = true ∧ mdQ a c c = a ∧ a ≤ 1000000 ∧ b ≤ 1000000 ∧ mdQ a b c = a * b / c ∧ (0 ≤ a * b ∧ a * b ≤ 1000000000000) ∧ 1 ≤ c ∧ (0 ≤ a * b / c ∧ a * b / c ≤ 1000000000000)) := by
  by_cases h : mdOk a b c = true
  · have h1 := h
    unfold mdOk at h1
    obtain ⟨a0, b0, c0, hq⟩ := of_decide_eq_true h1
    have s1 : mdOk b a c = true := by unfold mdOk; rw [Int.mul_comm b a]; exact decide_eq_true ⟨b0, a0, c0, hq⟩
    have e1 : mdQ b a c = mdQ a b c := by unfold mdQ; rw [h, s1, Int.mul_comm b a]
    have d : a * c / c = a := Int.mul_ediv_cancel a (by omega)
    have s2 : mdOk a c c = true := by unfold mdOk; rw [d]; exact decide_eq_true ⟨a0, by omega, c0, ha⟩
    have e2 : mdQ a c c = a := by unfold mdQ; rw [s2, d]; rfl
    have e3 : mdQ a b c = a * b / c := by unfold mdQ; rw [h]; rfl
    by_cases h2 : 1000000 < a
    · exact .inr (.inl ⟨h, s1, e1, s2, e2, h2⟩)
    · by_cases h3 : 1000000 < b
      · exact .inr (.inr (.inl ⟨h, s1, e1, s2, e2, by omega, h3⟩))
      · have m := Int.mul_le_mul (show a ≤ 1000000 by omega) (show b ≤ 1000000 by omega) b0 (by omega : (0 : Int) ≤ 1000000)
        have m0 := Int.mul_nonneg a0 b0
        exact .inr (.inr (.inr ⟨h, s1, e1.trans e3, s2, e2, by omega, by omega, e3, ⟨m0, by omega⟩, c0, Int.ediv_nonneg m0 (by omega), Int.le_trans (Int.ediv_le_self _ m0) (by omega)⟩))
  · have h1 : mdOk a b c = false := by simpa using h
    exact .inl ⟨h1, by unfold mdQ; rw [h1]; rfl⟩

/-! ### STEP 1: THE WALK: the Go text returns true, AND WRITES NOTHING THAT WAS THERE: 'Below w.heap.size w w'' (Derived/Below.lean: '.refl', '.alloc', '.drew', '.setCell' at a new block, '.trans'). Open each 'IsRow' by 'rcases' AHEAD of 'go_enter'; part every test ahead of the walk. -/
theorem walk (a0 : Option Addr) (len0 cap0 : Nat) (z0 : List Int) (w : World) (w0 : IsRow .u8 w a0 len0 cap0 z0) :
    Calls Try.prog 4 #[.slice a0 len0 cap0] w fun e w' => e = .returned (.bool true) ∧ Below w.heap.size w w' := by
  have row := row_of w0
  by_cases hs : len0 ≤ 4096
  · go_enter Try.func4, Try.ntmps4
    go_wp2_with (first
      | (go_at_call 11; refine (drawMulDiv_any cap0 hs row (Nat.le_refl _)).mono ?_; rintro e w1 ⟨x, y, z, rfl, ⟨x0, x1⟩, ⟨y0, y1⟩, ⟨z0, z1⟩, hb⟩; rcases md_cases x y z x1 with ⟨k1, k2⟩ | ⟨k1, k2, k3, k4, k5, k6⟩ | ⟨k1, k2, k3, k4, k5, k6, k7⟩ | ⟨k1, k2, k3, k4, k5, k6, k7, k8, k9, k10, k11⟩)
      | (go_at_call 12; refine (implMulDiv_any _ _ _ _ (by assumption) (by assumption) (by assumption)).mono ?_; rintro e w2 ⟨rfl, hb2⟩; have hb := below_step hb hb2)
      | (go_at_call 13; refine (specMulDiv_any _ _ _ _ (by assumption) (by assumption) (by assumption)).mono ?_; rintro e w2 ⟨rfl, rfl⟩)
      | go_in)
    all_goals go_ret
    all_goals exact ⟨ret_bool (by first | rfl | exact decide_eq_true (by omega)), hb⟩
  · have hbig : (4096 : Int) < (len0 : Int) := by omega
    go_enter Try.func4, Try.ntmps4
    go_wp2
    go_ret
    exact ⟨rfl, Below.refl _ _⟩

/-! ### THE ROW's STEP: WRITTEN OUT: LEAVE IT -/
set_option maxRecDepth 100000 in
theorem lifted (os : Os) (started : os.Started) (H : Type) (enc : TypeId × Value → H) :
    ReturnsInHanded {} Try.checked os 4 .any (Rows.fnMulDivSpec.pre6 enc Try.prog Try.f4 Rows.fnMulDivRow.domain false) (Rows.fnMulDivSpec.post enc Try.prog Try.f4 false true false false) := by
  refine returnsInHanded_of_change (C := Try.checked) own started (by kernel_rfl) Try.func4
    (ChangeSpec.witness6 (enc := enc) (C := Try.checked) false ⟨#[], #[.slice none 0 0], []⟩ 8 (by kernel_rfl) (by kernel_rfl) (by kernel_rfl) (by kernel_rfl)) ?_
  intro W base args ds gs before hval0 hW hcnd _
  have hval : ∀ (j : Nat) t v, Try.f4.params[j]? = some t → args[j]? = some v → Value.okWide Try.prog W .any base t v := hval0
  have hW' := hW
  obtain ⟨p, q, hA0, hV, rfl, hfz, hnd⟩ := hW
  have hA : DataW.TrodAll enc Try.prog W 0 (fun _ => true) true Try.f4.params.toList args.toList ds p := hA0
  rw [Try.params4] at hA hval
  obtain ⟨v0, vs0, d0, ds0, p0, q0, hargs, rfl, rfl, h0, r0⟩ := trodAll_cons hA
  obtain ⟨rfl, rfl, rfl⟩ := trodAll_nil r0
  obtain rfl : args = #[v0] := by cases args; simp_all
  obtain ⟨rfl, rfl⟩ := trodVars_none hV
  obtain ⟨a0, len0, cap0, rfl⟩ := okWide_slice Try.underlying22 (hval 0 22 v0 rfl rfl)
  have k0 := h0
  have lt0 : ∀ x ∈ p0, x.block < W.heap.size := by obtain ⟨m, hm⟩ := k0; exact DataW.trod_lt m _ _ _ hm
  obtain ⟨z0, w0⟩ : ∃ zs, IsRow .u8 W a0 len0 cap0 zs := by
    obtain ⟨fuel, hf⟩ := h0
    rcases open_ints Try.underlying22 Try.underlying5 (by kernel_rfl) hf with ⟨hcs, _⟩ | ⟨x, l, c, zs, hcs, _, hl, hm, hz, _, hcell, hwz⟩
    · simp [Value.cells] at hcs
      obtain ⟨rfl, rfl, rfl⟩ := hcs
      exact ⟨[], .inl ⟨rfl, rfl, rfl, rfl⟩⟩
    · simp [Value.cells] at hcs
      obtain ⟨rfl, rfl, rfl⟩ := hcs
      exact ⟨zs, .inr ⟨_, rfl, hl, hm, by simpa using hz, hcell, hwz⟩⟩
  clear hA0 hval0
  refine (walk a0 len0 cap0 z0 W w0).mono fun e W' ⟨he, bel⟩ => ?_
  subst he
  exact ⟨_, rfl, _, _, _, [], _, [], hW', trodAll_mk1 (shut_bool Try.underlying4 _), (trodAll_cons_mk (Below.trod laidOut (by kernel_rfl) (of_decide_eq_true (by kernel_rfl)) k0 bel lt0) trodAll_mk0), rfl, bel.frame _, fun h => by cases h⟩

theorem over : Rows.fnMulDivRow.holds Try.pinned (OpenSpec.ofChange Rows.fnMulDivSpec) :=
  OpenClaim.holds_of_wide 4 Try.f4 rfl rfl rfl rfl rfl rfl rfl ⟨rfl, rfl, rfl, rfl, rfl⟩ rfl rfl rfl rfl rfl (by kernel_rfl) Try.func4 (by kernel_rfl)
    (of_decide_eq_true (by kernel_rfl)) (by unfold Func.isWrapper; first | (rw [if_pos (by decide +kernel)]; kernel_rfl) | (rw [if_neg (by decide +kernel)]; exact ⟨rfl, rfl⟩))
    (fun os started H enc _ => lifted os started H enc)

/-- ████ THE STATEMENT ████ -/
theorem proved : Rows.FnMulDivSaid := over
#print axioms proved
end Go.Proofs.Ytcacalfckflkmaa.fnMulDiv
namespace Go.Proofs.Ytcacalfckflkmaa
theorem fnMulDiv_holds : Rows.FnMulDivSaid := fnMulDiv.proved
#print axioms fnMulDiv_holds
end Go.Proofs.Ytcacalfckflkmaa
