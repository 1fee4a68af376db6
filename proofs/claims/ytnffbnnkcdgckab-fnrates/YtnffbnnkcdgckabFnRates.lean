/- Proved: whatever the bytes, the law FnRates returns true (a reading that is a rate is that rate, rounded down, and ToRate is as spec has it), and the bytes read as before; no condition. -/
import Derived.Test.YtnffbnnkcdgckabRows
import Derived.WalkKit
import Derived.ProofKit
import Derived.OpenShut
import Derived.ShutString
import Derived.ChangeOld
import Derived.Below
import Derived.Test.YtnffbnnkcdgckabImplRate
import Derived.Test.YtnffbnnkcdgckabDrawF
namespace Go.Proofs.Ytnffbnnkcdgckab.fnRates
open Go.ChangeShapes Go.WideShapes Go.ChangeAt Go.RowKit
open Go.ChangeMaps (open_string shut_string)
set_option linter.unusedVariables false

theorem own : ownKnob Try.prog.godebug = none := by kernel_rfl
theorem laidOut : laidOutB Try.prog = true := by kernel_rfl

/-- WHAT THE WALK IS TOLD OF A SLICE OF INTEGERS THAT CAME IN: it is nil; or it leads to a row of 'cap' cells, the numbers 'zs' (the first 'len' are its elements, the rest its spare room), each fitting its kind. -/
def IsRow (k : IntKind) (w : World) (a : Option Addr) (len cap : Nat) (zs : List Int) : Prop :=
  (a = none ∧ len = 0 ∧ cap = 0 ∧ zs = []) ∨
  ∃ x, a = some x ∧ len ≤ cap ∧ cap ≤ maxLen ∧ zs.length = cap ∧ (∀ i, i < zs.length → w.cell? (x.add i) = some (.int k (zs.getD i 0))) ∧ ∀ n ∈ zs, (Lit.int k n).wf = true

theorem row_of {w : World} {a : Option Addr} {len cap : Nat} {zs : List Int} (h : IsRow .u8 w a len cap zs) : Row w.heap.size a len w := by
  intro i hi
  rcases h with ⟨rfl, rfl, rfl, rfl⟩ | ⟨x, rfl, hl, hm, hz, hcell, hwz⟩
  · omega
  · obtain ⟨b, off, spot⟩ := x
    have hspot : spot = none := by simpa [Addr.add] using World.cell?_spot (hcell 0 (by omega))
    subst hspot
    have hc := hcell i (by omega)
    have hc' : w.cell? ⟨b, off + i, none⟩ = some (.int .u8 (zs.getD i 0)) := by
      by_cases h0 : i = 0
      · subst h0; simpa [Addr.add] using hc
      · simpa [Addr.add, h0] using hc
    have hlt : i < zs.length := by omega
    have hm : zs.getD i 0 ∈ zs := by simp [List.getD, List.getElem?_eq_getElem hlt]
    obtain ⟨z0, z1⟩ := bounds_u8 (hwz _ hm)
    exact ⟨b, off, zs.getD i 0, rfl, World.block_lt_of_cell? w _ hc', hc', z0, z1⟩
theorem below_step {w w1 w2 : World} (h : Below w.heap.size w w1) (k : Below w1.heap.size w1 w2) : Below w.heap.size w w2 := h.trans (k.mono h.size)
theorem one_is : Is 4607182418800017408 2 := by
  have h := int_is 1 (by decide)
  have e : floatOfInt .f64 1 = 4607182418800017408 := by decide
  rw [e] at h
  exact h
/-- Where a rate's whole number lies, as floats. -/
theorem rate_facts {x : Nat} (h : rateOk x = true) : ∃ (n : Nat) (s : Nat), rateN x = n ∧ n ≤ 1000000000000 ∧ Ieee.double.add (floatOfInt .f64 (n : Int)) 4607182418800017408 = some s ∧
    (FloatKind.f64.format.order (floatOfInt .f64 (n : Int)) x = some .lt ∨ FloatKind.f64.format.order (floatOfInt .f64 (n : Int)) x = some .eq) ∧ FloatKind.f64.format.order s x = some .gt := by
  obtain ⟨nx, x0, x1, hf, n, hn, hle, hv, f1, f2⟩ := rate_in h
  have hI := int_is n (by omega)
  obtain ⟨s, hs, hS⟩ := add_is hI one_is (by omega)
  have e1 : val (floatOfInt .f64 (n : Int)) = (n : Int) * 2 ^ (halfUp + 1) := by rw [hI.2.2, Int.pow_succ]; generalize (2 : Int) ^ halfUp = P; rw [Int.mul_comm 2 (n : Int), Int.mul_assoc, Int.mul_comm P 2]
  have e2 : val s = ((n : Int) + 1) * 2 ^ (halfUp + 1) := by rw [hS.2.2, Int.pow_succ]; generalize (2 : Int) ^ halfUp = P; rw [show (2 : Int) * n + 2 = (n + 1) * 2 by omega, Int.mul_assoc, Int.mul_comm 2 P]
  refine ⟨n, s, hn, hle, hs, ?_, ?_⟩
  · have o : FloatKind.f64.format.order (floatOfInt .f64 (n : Int)) x = some (compare (val (floatOfInt .f64 (n : Int))) (val x)) := order_fin hI.2.1 hf
    rw [o, e1]
    rcases Int.lt_or_eq_of_le f1 with h | h
    · exact .inl (by rw [Int.compare_eq_lt.2 h])
    · exact .inr (by rw [Int.compare_eq_eq.2 h])
  · have o : FloatKind.f64.format.order s x = some (compare (val s) (val x)) := order_fin hS.2.1 hf
    rw [o, e2, Int.compare_eq_gt.2 f2]
theorem rate_cases (x : Nat) : (rateOk x = false ∧ rateN x = 0) ∨
    (∃ (n : Nat) (s : Nat), rateOk x = true ∧ rateN x = n ∧ n ≤ 1000000000000 ∧ Ieee.double.add (floatOfInt .f64 (n : Int)) 4607182418800017408 = some s ∧
      (FloatKind.f64.format.order (floatOfInt .f64 (n : Int)) x = some .lt ∨ FloatKind.f64.format.order (floatOfInt .f64 (n : Int)) x = some .eq) ∧ FloatKind.f64.format.order s x = some .gt) := by
  cases h : rateOk x
  · exact .inl ⟨rfl, (rate_out h).1⟩
  · obtain ⟨n, s, h1⟩ := rate_facts h
    exact .inr ⟨n, s, rfl, h1⟩

/-! ### STEP 1: THE WALK: the Go text returns true, AND WRITES NOTHING THAT WAS THERE: 'Below w.heap.size w w'' (Derived/Below.lean: '.refl', '.alloc', '.drew', '.setCell' at a new block, '.trans'). Open each 'IsRow' by 'rcases' AHEAD of 'go_enter'; part every test ahead of the walk. -/
set_option maxHeartbeats 1000000 in
theorem walk (a0 : Option Addr) (len0 cap0 : Nat) (z0 : List Int) (w : World) (w0 : IsRow .u8 w a0 len0 cap0 z0) :
    Calls Try.prog 4 #[.slice a0 len0 cap0] w fun e w' => e = .returned (.bool true) ∧ Below w.heap.size w w' := by
  have row := row_of w0
  by_cases hs : len0 ≤ 4096
  · go_enter Try.func4, Try.ntmps4
    go_wp2_with (first
      | (go_at_call 12; refine (drawToRate_any cap0 hs row (Nat.le_refl _)).mono ?_; rintro e w1 ⟨x, rfl, lx, hb⟩; rcases rate_cases x with ⟨hk, hn⟩ | ⟨n, s, hk, hn, hle, hs1, o1 | o1, o2⟩ <;> try have q := fun w => run_float_arith (P := Try.prog) w .add 24 .f64 _ _ _ hs1)
      | (go_at_call 11; refine (implToRate_any _ _).mono ?_; rintro e w2 ⟨rfl, hb2⟩; have hb := below_step hb hb2)
      | (go_at_call 13; refine (specToRate_any _ _).mono ?_; rintro e w2 ⟨rfl, rfl⟩)
      | go_in)
    all_goals go_ret
    all_goals exact ⟨rfl, hb⟩
  · have hbig : (4096 : Int) < (len0 : Int) := by omega
    go_enter Try.func4, Try.ntmps4
    go_wp2
    go_ret
    exact ⟨rfl, Below.refl _ _⟩

/-! ### THE ROW's STEP: WRITTEN OUT: LEAVE IT -/
set_option maxRecDepth 100000 in
theorem lifted (os : Os) (started : os.Started) (H : Type) (enc : TypeId × Value → H) :
    ReturnsInHanded {} Try.checked os 4 .any (Rows.fnRatesSpec.pre6 enc Try.prog Try.f4 Rows.fnRatesRow.domain false) (Rows.fnRatesSpec.post enc Try.prog Try.f4 false true false false) := by
  refine returnsInHanded_of_change (C := Try.checked) own started (by kernel_rfl) Try.func4
    (ChangeSpec.witness6 (enc := enc) (C := Try.checked) false ⟨#[], #[.slice none 0 0], []⟩ 8 (by kernel_rfl) (by kernel_rfl) (by kernel_rfl) (by kernel_rfl)) ?_
  intro W base args ds gs before hval0 hW hcnd _
  have hval : ∀ (j : Nat) t v, Try.f4.params[j]? = some t → args[j]? = some v → Value.okWide Try.prog W .any base t v := hval0
  have hW' := hW
  obtain ⟨p, q, hA0, hV, rfl, hfz, hnd⟩ := hW
  have hA : DataW.TrodAll enc Try.prog W 0 (fun _ => true) true Try.f4.params.toList args.toList ds p := hA0
  rw [Try.params4] at hA hval
  obtain ⟨v0, vs0, d0, ds0, p0, q0, hargs, rfl, rfl, h0, r0⟩ := trodAll_cons hA
  obtain ⟨rfl, rfl, rfl⟩ := trodAll_nil r0
  obtain rfl : args = #[v0] := by cases args; simp_all
  obtain ⟨rfl, rfl⟩ := trodVars_none hV
  obtain ⟨a0, len0, cap0, rfl⟩ := okWide_slice Try.underlying22 (hval 0 22 v0 rfl rfl)
  have k0 := h0
  have lt0 : ∀ x ∈ p0, x.block < W.heap.size := by obtain ⟨m, hm⟩ := k0; exact DataW.trod_lt m _ _ _ hm
  obtain ⟨z0, w0⟩ : ∃ zs, IsRow .u8 W a0 len0 cap0 zs := by
    obtain ⟨fuel, hf⟩ := h0
    rcases open_ints Try.underlying22 Try.underlying5 (by kernel_rfl) hf with ⟨hcs, _⟩ | ⟨x, l, c, zs, hcs, _, hl, hm, hz, _, hcell, hwz⟩
    · simp [Value.cells] at hcs
      obtain ⟨rfl, rfl, rfl⟩ := hcs
      exact ⟨[], .inl ⟨rfl, rfl, rfl, rfl⟩⟩
    · simp [Value.cells] at hcs
      obtain ⟨rfl, rfl, rfl⟩ := hcs
      exact ⟨zs, .inr ⟨_, rfl, hl, hm, by simpa using hz, hcell, hwz⟩⟩
  clear hA0 hval0
  refine (walk a0 len0 cap0 z0 W w0).mono fun e W' ⟨he, bel⟩ => ?_
  subst he
  exact ⟨_, rfl, _, _, _, [], _, [], hW', trodAll_mk1 (shut_bool Try.underlying4 _), (trodAll_cons_mk (Below.trod laidOut (by kernel_rfl) (of_decide_eq_true (by kernel_rfl)) k0 bel lt0) trodAll_mk0), rfl, bel.frame _, fun h => by cases h⟩

theorem over : Rows.fnRatesRow.holds Try.pinned (OpenSpec.ofChange Rows.fnRatesSpec) :=
  OpenClaim.holds_of_wide 4 Try.f4 rfl rfl rfl rfl rfl rfl rfl ⟨rfl, rfl, rfl, rfl, rfl⟩ rfl rfl rfl rfl rfl (by kernel_rfl) Try.func4 (by kernel_rfl)
    (of_decide_eq_true (by kernel_rfl)) (by unfold Func.isWrapper; first | (rw [if_pos (by decide +kernel)]; kernel_rfl) | (rw [if_neg (by decide +kernel)]; exact ⟨rfl, rfl⟩))
    (fun os started H enc _ => lifted os started H enc)

/-- ████ THE STATEMENT ████ -/
theorem proved : Rows.FnRatesSaid := over
#print axioms proved
end Go.Proofs.Ytnffbnnkcdgckab.fnRates
namespace Go.Proofs.Ytnffbnnkcdgckab
theorem fnRates_holds : Rows.FnRatesSaid := fnRates.proved
#print axioms fnRates_holds
end Go.Proofs.Ytnffbnnkcdgckab
