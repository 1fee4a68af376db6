/- Proved: whatever the bytes, the law FnRoots returns true (impl.CubeRoot's cube is at most the number, the next one's is more, and it is as spec.CubeRoot has it), and the bytes read as before; no condition. -/
import Derived.Test.YtcacalfckflkmaaRows
import Derived.WalkKit
import Derived.ProofKit
import Derived.OpenShut
import Derived.ShutString
import Derived.ChangeOld
import Derived.Below
import Derived.Test.YtcacalfckflkmaaRoot
import Derived.Test.YtcacalfckflkmaaDraws1
namespace Go.Proofs.Ytcacalfckflkmaa.fnRoots
open Go.ChangeShapes Go.WideShapes Go.ChangeAt Go.RowKit
open Go.ChangeMaps (open_string shut_string)
set_option linter.unusedVariables false

theorem own : ownKnob Try.prog.godebug = none := by kernel_rfl
theorem laidOut : laidOutB Try.prog = true := by kernel_rfl

/-- WHAT THE WALK IS TOLD OF A SLICE OF INTEGERS THAT CAME IN: it is nil; or it leads to a row of 'cap' cells, the numbers 'zs' (the first 'len' are its elements, the rest its spare room), each fitting its kind. -/
def IsRow (k : IntKind) (w : World) (a : Option Addr) (len cap : Nat) (zs : List Int) : Prop :=
  (a = none ∧ len = 0 ∧ cap = 0 ∧ zs = []) ∨
  ∃ x, a = some x ∧ len ≤ cap ∧ cap ≤ maxLen ∧ zs.length = cap ∧ (∀ i, i < zs.length → w.cell? (x.add i) = some (.int k (zs.getD i 0))) ∧ ∀ n ∈ zs, (Lit.int k n).wf = true

theorem row_of {w : World} {a : Option Addr} {len cap : Nat} {zs : List Int} (h : IsRow .u8 w a len cap zs) : Row w.heap.size a len w := by
  intro i hi
  rcases h with ⟨rfl, rfl, rfl, rfl⟩ | ⟨x, rfl, hl, hm, hz, hcell, hwz⟩
  · omega
  · obtain ⟨b, off, spot⟩ := x
    have hspot : spot = none := by simpa [Addr.add] using World.cell?_spot (hcell 0 (by omega))
    subst hspot
    have hc := hcell i (by omega)
    have hc' : w.cell? ⟨b, off + i, none⟩ = some (.int .u8 (zs.getD i 0)) := by
      by_cases h0 : i = 0
      · subst h0; simpa [Addr.add] using hc
      · simpa [Addr.add, h0] using hc
    have hlt : i < zs.length := by omega
    have hm : zs.getD i 0 ∈ zs := by simp [List.getD, List.getElem?_eq_getElem hlt]
    obtain ⟨z0, z1⟩ := bounds_u8 (hwz _ hm)
    exact ⟨b, off, zs.getD i 0, rfl, World.block_lt_of_cell? w _ hc', hc', z0, z1⟩
theorem ret_bool {f : Bool} (h : f = true) : Ending.returned (.bool f) = .returned (.bool true) := by rw [h]
theorem root_cases {x r : Int} (h : IsRoot x r) : (x < 0 ∧ r = -1) ∨ (0 ≤ x ∧ r = 2097151 ∧ 9223358842721533951 ≤ x) ∨
    (0 ≤ x ∧ 0 ≤ r ∧ r < 2097151 ∧ (0 ≤ r * r ∧ r * r ≤ 4398042316801) ∧ (0 ≤ r * r * r ∧ r * r * r ≤ 9223358842721533951) ∧ (0 ≤ (r + 1) * (r + 1) ∧ (r + 1) * (r + 1) ≤ 4398042316801) ∧
      (0 ≤ (r + 1) * (r + 1) * (r + 1) ∧ (r + 1) * (r + 1) * (r + 1) ≤ 9223358842721533951) ∧ r * r * r ≤ x ∧ x < (r + 1) * (r + 1) * (r + 1)) := by
  rcases h with h | ⟨h0, h1, h2, h3, h4⟩
  · exact .inl h
  · by_cases e : r = 2097151
    · subst e; exact .inr (.inl ⟨h0, rfl, by omega⟩)
    · obtain ⟨R, rfl⟩ := Int.eq_ofNat_of_zero_le h1
      have b1 := cube_bd (M := R) (by omega)
      have b2 := cube_bd (M := R + 1) (by omega)
      rw [show ((R + 1 : Nat) : Int) = (R : Int) + 1 by omega] at b2
      exact .inr (.inr ⟨h0, h1, by omega, ⟨b1.1.2, b1.1.1⟩, ⟨b1.2.2, b1.2.1⟩, ⟨b2.1.2, b2.1.1⟩, ⟨b2.2.2, b2.2.1⟩, h3, h4⟩)

/-! ### STEP 1: THE WALK: the Go text returns true, AND WRITES NOTHING THAT WAS THERE: 'Below w.heap.size w w'' (Derived/Below.lean: '.refl', '.alloc', '.drew', '.setCell' at a new block, '.trans'). Open each 'IsRow' by 'rcases' AHEAD of 'go_enter'; part every test ahead of the walk. -/
theorem walk (a0 : Option Addr) (len0 cap0 : Nat) (z0 : List Int) (w : World) (w0 : IsRow .u8 w a0 len0 cap0 z0) :
    Calls Try.prog 5 #[.slice a0 len0 cap0] w fun e w' => e = .returned (.bool true) ∧ Below w.heap.size w w' := by
  have row := row_of w0
  by_cases hs : len0 ≤ 4096
  · go_enter Try.func5, Try.ntmps5
    go_wp2_with (first
      | (go_at_call 14; refine (drawCubeRoot_any cap0 hs row (Nat.le_refl _)).mono ?_; rintro e w1 ⟨x, rfl, ⟨x0, x1⟩, hb⟩; obtain ⟨r, hr⟩ := root_exists x x1; rcases root_cases hr with ⟨h0, rfl⟩ | ⟨h0, rfl, h1⟩ | ⟨h0, h1, h2, h3, h4, h5, h6, h7, h8⟩)
      | (go_at_call 15; refine (implRoot_any _ _ _ x1 hr).mono ?_; rintro e w2 ⟨rfl, rfl⟩)
      | (go_at_call 16; refine (specRoot_any _ _ _ x1 hr).mono ?_; rintro e w2 ⟨rfl, rfl⟩)
      | go_in)
    all_goals go_ret
    all_goals exact ⟨ret_bool (by first | rfl | exact decide_eq_true (by omega)), hb⟩
  · have hbig : (4096 : Int) < (len0 : Int) := by omega
    go_enter Try.func5, Try.ntmps5
    go_wp2
    go_ret
    exact ⟨rfl, Below.refl _ _⟩

/-! ### THE ROW's STEP: WRITTEN OUT: LEAVE IT -/
set_option maxRecDepth 100000 in
theorem lifted (os : Os) (started : os.Started) (H : Type) (enc : TypeId × Value → H) :
    ReturnsInHanded {} Try.checked os 5 .any (Rows.fnRootsSpec.pre6 enc Try.prog Try.f5 Rows.fnRootsRow.domain false) (Rows.fnRootsSpec.post enc Try.prog Try.f5 false true false false) := by
  refine returnsInHanded_of_change (C := Try.checked) own started (by kernel_rfl) Try.func5
    (ChangeSpec.witness6 (enc := enc) (C := Try.checked) false ⟨#[], #[.slice none 0 0], []⟩ 8 (by kernel_rfl) (by kernel_rfl) (by kernel_rfl) (by kernel_rfl)) ?_
  intro W base args ds gs before hval0 hW hcnd _
  have hval : ∀ (j : Nat) t v, Try.f5.params[j]? = some t → args[j]? = some v → Value.okWide Try.prog W .any base t v := hval0
  have hW' := hW
  obtain ⟨p, q, hA0, hV, rfl, hfz, hnd⟩ := hW
  have hA : DataW.TrodAll enc Try.prog W 0 (fun _ => true) true Try.f5.params.toList args.toList ds p := hA0
  rw [Try.params5] at hA hval
  obtain ⟨v0, vs0, d0, ds0, p0, q0, hargs, rfl, rfl, h0, r0⟩ := trodAll_cons hA
  obtain ⟨rfl, rfl, rfl⟩ := trodAll_nil r0
  obtain rfl : args = #[v0] := by cases args; simp_all
  obtain ⟨rfl, rfl⟩ := trodVars_none hV
  obtain ⟨a0, len0, cap0, rfl⟩ := okWide_slice Try.underlying22 (hval 0 22 v0 rfl rfl)
  have k0 := h0
  have lt0 : ∀ x ∈ p0, x.block < W.heap.size := by obtain ⟨m, hm⟩ := k0; exact DataW.trod_lt m _ _ _ hm
  obtain ⟨z0, w0⟩ : ∃ zs, IsRow .u8 W a0 len0 cap0 zs := by
    obtain ⟨fuel, hf⟩ := h0
    rcases open_ints Try.underlying22 Try.underlying5 (by kernel_rfl) hf with ⟨hcs, _⟩ | ⟨x, l, c, zs, hcs, _, hl, hm, hz, _, hcell, hwz⟩
    · simp [Value.cells] at hcs
      obtain ⟨rfl, rfl, rfl⟩ := hcs
      exact ⟨[], .inl ⟨rfl, rfl, rfl, rfl⟩⟩
    · simp [Value.cells] at hcs
      obtain ⟨rfl, rfl, rfl⟩ := hcs
      exact ⟨zs, .inr ⟨_, rfl, hl, hm, by simpa using hz, hcell, hwz⟩⟩
  clear hA0 hval0
  refine (walk a0 len0 cap0 z0 W w0).mono fun e W' ⟨he, bel⟩ => ?_
  subst he
  exact ⟨_, rfl, _, _, _, [], _, [], hW', trodAll_mk1 (shut_bool Try.underlying4 _), (trodAll_cons_mk (Below.trod laidOut (by kernel_rfl) (of_decide_eq_true (by kernel_rfl)) k0 bel lt0) trodAll_mk0), rfl, bel.frame _, fun h => by cases h⟩

theorem over : Rows.fnRootsRow.holds Try.pinned (OpenSpec.ofChange Rows.fnRootsSpec) :=
  OpenClaim.holds_of_wide 5 Try.f5 rfl rfl rfl rfl rfl rfl rfl ⟨rfl, rfl, rfl, rfl, rfl⟩ rfl rfl rfl rfl rfl (by kernel_rfl) Try.func5 (by kernel_rfl)
    (of_decide_eq_true (by kernel_rfl)) (by unfold Func.isWrapper; first | (rw [if_pos (by decide +kernel)]; kernel_rfl) | (rw [if_neg (by decide +kernel)]; exact ⟨rfl, rfl⟩))
    (fun os started H enc _ => lifted os started H enc)

/-- ████ THE STATEMENT ████ -/
theorem proved : Rows.FnRootsSaid := over
#print axioms proved
end Go.Proofs.Ytcacalfckflkmaa.fnRoots
namespace Go.Proofs.Ytcacalfckflkmaa
theorem fnRoots_holds : Rows.FnRootsSaid := fnRoots.proved
#print axioms fnRoots_holds
end Go.Proofs.Ytcacalfckflkmaa
