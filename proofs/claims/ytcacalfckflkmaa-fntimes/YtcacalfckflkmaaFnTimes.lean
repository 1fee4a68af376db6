/- Proved: whatever the bytes, the law FnTimes returns true (in the time that impl.TimeFor tells the bytes go, in a nanosecond less they do not, and both functions are as spec has them), and the bytes read as before; no condition. -/
import Derived.Test.YtcacalfckflkmaaRows
import Derived.WalkKit
import Derived.ProofKit
import Derived.OpenShut
import Derived.ShutString
import Derived.ChangeOld
import Derived.Below
import Derived.Test.YtcacalfckflkmaaTimes
import Derived.Test.YtcacalfckflkmaaDraws1
namespace Go.Proofs.Ytcacalfckflkmaa.fnTimes
open Go.ChangeShapes Go.WideShapes Go.ChangeAt Go.RowKit
open Go.ChangeMaps (open_string shut_string)
set_option linter.unusedVariables false

theorem own : ownKnob Try.prog.godebug = none := by kernel_rfl
theorem laidOut : laidOutB Try.prog = true := by kernel_rfl

/-- WHAT THE WALK IS TOLD OF A SLICE OF INTEGERS THAT CAME IN: it is nil; or it leads to a row of 'cap' cells, the numbers 'zs' (the first 'len' are its elements, the rest its spare room), each fitting its kind. -/
def IsRow (k : IntKind) (w : World) (a : Option Addr) (len cap : Nat) (zs : List Int) : Prop :=
  (a = none ∧ len = 0 ∧ cap = 0 ∧ zs = []) ∨
  ∃ x, a = some x ∧ len ≤ cap ∧ cap ≤ maxLen ∧ zs.length = cap ∧ (∀ i, i < zs.length → w.cell? (x.add i) = some (.int k (zs.getD i 0))) ∧ ∀ n ∈ zs, (Lit.int k n).wf = true

theorem row_of {w : World} {a : Option Addr} {len cap : Nat} {zs : List Int} (h : IsRow .u8 w a len cap zs) : Row w.heap.size a len w := by
  intro i hi
  rcases h with ⟨rfl, rfl, rfl, rfl⟩ | ⟨x, rfl, hl, hm, hz, hcell, hwz⟩
  · omega
  · obtain ⟨b, off, spot⟩ := x
    have hspot : spot = none := by simpa [Addr.add] using World.cell?_spot (hcell 0 (by omega))
    subst hspot
    have hc := hcell i (by omega)
    have hc' : w.cell? ⟨b, off + i, none⟩ = some (.int .u8 (zs.getD i 0)) := by
      by_cases h0 : i = 0
      · subst h0; simpa [Addr.add] using hc
      · simpa [Addr.add, h0] using hc
    have hlt : i < zs.length := by omega
    have hm : zs.getD i 0 ∈ zs := by simp [List.getD, List.getElem?_eq_getElem hlt]
    obtain ⟨z0, z1⟩ := bounds_u8 (hwz _ hm)
    exact ⟨b, off, zs.getD i 0, rfl, World.block_lt_of_cell? w _ hc', hc', z0, z1⟩
theorem ret_bool {f : Bool} (h : f = true) : Ending.returned (.bool f) = .returned (.bool true) := by rw [h]
theorem below_step {w w1 w2 : World} (h : Below w.heap.size w w1) (k : Below w1.heap.size w1 w2) : Below w.heap.size w w2 := h.trans (k.mono h.size)
theorem time_cases (r n : Int) : timeOf r n ≤ 0 ∨ timeOf r n = 1000000000000000 ∨
    (0 < timeOf r n ∧ timeOf r n < 1000000000000000 ∧ n ≤ bytesOf r (timeOf r n) ∧ bytesOf r (timeOf r n - 1) < n) := by
  by_cases hin : 0 ≤ r ∧ r ≤ 1000000000000 ∧ 0 ≤ n ∧ n ≤ 1000000000
  · obtain ⟨r0, r1, n0, n1⟩ := hin
    by_cases hn : n = 0
    · subst hn; rw [time_none r0 r1]; omega
    · by_cases hr : r = 0
      · subst hr; rw [time_never (by omega) n1]; omega
      · by_cases hm : (n * 1000000000 + r - 1) / r < 1000000000000000
        · rw [time_less (by omega) r1 (by omega) n1 hm]
          obtain ⟨q, hq⟩ : ∃ q, q = (n * 1000000000 + r - 1) / r := ⟨_, rfl⟩
          have e := Int.mul_ediv_add_emod (n * 1000000000 + r - 1) r
          have p0 := Int.emod_nonneg (n * 1000000000 + r - 1) hr
          have p1 := Int.emod_lt_of_pos (n * 1000000000 + r - 1) (show 0 < r by omega)
          rw [← hq] at e hm ⊢
          have q0 : 0 < q := by
            by_cases h : q ≤ 0
            · have := Int.mul_le_mul_of_nonneg_left h r0
              omega
            · omega
          refine .inr (.inr ⟨q0, hm, ?_, ?_⟩)
          · rw [bytes_in r0 r1 (by omega) (by omega)]; omega
          · rw [bytes_in r0 r1 (by omega) (by omega), Int.mul_sub]; omega
        · rw [time_more (by omega) r1 (by omega) n1 hm]; omega
  · rw [time_out (by omega)]; omega

/-! ### STEP 1: THE WALK: the Go text returns true, AND WRITES NOTHING THAT WAS THERE: 'Below w.heap.size w w'' (Derived/Below.lean: '.refl', '.alloc', '.drew', '.setCell' at a new block, '.trans'). Open each 'IsRow' by 'rcases' AHEAD of 'go_enter'; part every test ahead of the walk. -/
theorem walk (a0 : Option Addr) (len0 cap0 : Nat) (z0 : List Int) (w : World) (w0 : IsRow .u8 w a0 len0 cap0 z0) :
    Calls Try.prog 6 #[.slice a0 len0 cap0] w fun e w' => e = .returned (.bool true) ∧ Below w.heap.size w w' := by
  have row := row_of w0
  by_cases hs : len0 ≤ 4096
  · go_enter Try.func6, Try.ntmps6
    go_wp2_with (first
      | (go_at_call 17; refine (drawTimeFor_any cap0 hs row (Nat.le_refl _)).mono ?_; rintro e w1 ⟨x, y, rfl, ⟨x0, x1⟩, ⟨y0, y1⟩, hb⟩; rcases time_cases x y with hc | hc | ⟨hc, hd, he, hf⟩)
      | (go_at_call 20; refine (drawBytes_any cap0 hs (row.mono hb) hb.size).mono ?_; rintro e w2 ⟨x', y', rfl, ⟨x0', x1'⟩, ⟨y0', y1'⟩, hb2⟩; have hb := below_step hb hb2)
      | (go_at_call 18; refine (implTimeFor_any _ _ _).mono ?_; rintro e w2 ⟨rfl, rfl⟩)
      | (go_at_call 19; refine (specTimeFor_any _ _ _).mono ?_; rintro e w2 ⟨rfl, rfl⟩)
      | (go_at_call 21; refine (implBytes_any _ _ _).mono ?_; rintro e w2 ⟨rfl, hb2⟩; have hb := below_step hb hb2)
      | (go_at_call 22; refine (specBytes_any _ _ _).mono ?_; rintro e w2 ⟨rfl, rfl⟩)
      | go_in)
    all_goals go_ret
    all_goals exact ⟨ret_bool (by first | rfl | exact decide_eq_true (by omega)), hb⟩
  · have hbig : (4096 : Int) < (len0 : Int) := by omega
    go_enter Try.func6, Try.ntmps6
    go_wp2
    go_ret
    exact ⟨rfl, Below.refl _ _⟩

/-! ### THE ROW's STEP: WRITTEN OUT: LEAVE IT -/
set_option maxRecDepth 100000 in
theorem lifted (os : Os) (started : os.Started) (H : Type) (enc : TypeId × Value → H) :
    ReturnsInHanded {} Try.checked os 6 .any (Rows.fnTimesSpec.pre6 enc Try.prog Try.f6 Rows.fnTimesRow.domain false) (Rows.fnTimesSpec.post enc Try.prog Try.f6 false true false false) := by
  refine returnsInHanded_of_change (C := Try.checked) own started (by kernel_rfl) Try.func6
    (ChangeSpec.witness6 (enc := enc) (C := Try.checked) false ⟨#[], #[.slice none 0 0], []⟩ 8 (by kernel_rfl) (by kernel_rfl) (by kernel_rfl) (by kernel_rfl)) ?_
  intro W base args ds gs before hval0 hW hcnd _
  have hval : ∀ (j : Nat) t v, Try.f6.params[j]? = some t → args[j]? = some v → Value.okWide Try.prog W .any base t v := hval0
  have hW' := hW
  obtain ⟨p, q, hA0, hV, rfl, hfz, hnd⟩ := hW
  have hA : DataW.TrodAll enc Try.prog W 0 (fun _ => true) true Try.f6.params.toList args.toList ds p := hA0
  rw [Try.params6] at hA hval
  obtain ⟨v0, vs0, d0, ds0, p0, q0, hargs, rfl, rfl, h0, r0⟩ := trodAll_cons hA
  obtain ⟨rfl, rfl, rfl⟩ := trodAll_nil r0
  obtain rfl : args = #[v0] := by cases args; simp_all
  obtain ⟨rfl, rfl⟩ := trodVars_none hV
  obtain ⟨a0, len0, cap0, rfl⟩ := okWide_slice Try.underlying22 (hval 0 22 v0 rfl rfl)
  have k0 := h0
  have lt0 : ∀ x ∈ p0, x.block < W.heap.size := by obtain ⟨m, hm⟩ := k0; exact DataW.trod_lt m _ _ _ hm
  obtain ⟨z0, w0⟩ : ∃ zs, IsRow .u8 W a0 len0 cap0 zs := by
    obtain ⟨fuel, hf⟩ := h0
    rcases open_ints Try.underlying22 Try.underlying5 (by kernel_rfl) hf with ⟨hcs, _⟩ | ⟨x, l, c, zs, hcs, _, hl, hm, hz, _, hcell, hwz⟩
    · simp [Value.cells] at hcs
      obtain ⟨rfl, rfl, rfl⟩ := hcs
      exact ⟨[], .inl ⟨rfl, rfl, rfl, rfl⟩⟩
    · simp [Value.cells] at hcs
      obtain ⟨rfl, rfl, rfl⟩ := hcs
      exact ⟨zs, .inr ⟨_, rfl, hl, hm, by simpa using hz, hcell, hwz⟩⟩
  clear hA0 hval0
  refine (walk a0 len0 cap0 z0 W w0).mono fun e W' ⟨he, bel⟩ => ?_
  subst he
  exact ⟨_, rfl, _, _, _, [], _, [], hW', trodAll_mk1 (shut_bool Try.underlying4 _), (trodAll_cons_mk (Below.trod laidOut (by kernel_rfl) (of_decide_eq_true (by kernel_rfl)) k0 bel lt0) trodAll_mk0), rfl, bel.frame _, fun h => by cases h⟩

theorem over : Rows.fnTimesRow.holds Try.pinned (OpenSpec.ofChange Rows.fnTimesSpec) :=
  OpenClaim.holds_of_wide 6 Try.f6 rfl rfl rfl rfl rfl rfl rfl ⟨rfl, rfl, rfl, rfl, rfl⟩ rfl rfl rfl rfl rfl (by kernel_rfl) Try.func6 (by kernel_rfl)
    (of_decide_eq_true (by kernel_rfl)) (by unfold Func.isWrapper; first | (rw [if_pos (by decide +kernel)]; kernel_rfl) | (rw [if_neg (by decide +kernel)]; exact ⟨rfl, rfl⟩))
    (fun os started H enc _ => lifted os started H enc)

/-- ████ THE STATEMENT ████ -/
theorem proved : Rows.FnTimesSaid := over
#print axioms proved
end Go.Proofs.Ytcacalfckflkmaa.fnTimes
namespace Go.Proofs.Ytcacalfckflkmaa
theorem fnTimes_holds : Rows.FnTimesSaid := fnTimes.proved
#print axioms fnTimes_holds
end Go.Proofs.Ytcacalfckflkmaa
