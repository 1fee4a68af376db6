/- Proved: whatever the bytes, the law FnLevels returns true (at the two times that the model draws of them impl.Level answers as spec's does, its level is at most 3 and its slot one of sixty-four, and no later time has a lower level), and the bytes read as before; no condition. -/
import Derived.Test.YtcmgaaopkhjelacRows
import Derived.WalkKit
import Derived.ProofKit
import Derived.OpenShut
import Derived.ShutString
import Derived.ChangeOld
import Derived.Below
import Derived.Test.YtcmgaaopkhjelacDrawLevel
import Derived.Test.YtcmgaaopkhjelacSpecLevel
import Derived.Test.YtcmgaaopkhjelacImplLevel
import Derived.Deep.DeepCutAuto
namespace Go.Proofs.Ytcmgaaopkhjelac.fnLevels
open Go.ChangeShapes Go.WideShapes Go.ChangeAt Go.RowKit
open Go.ChangeMaps (open_string shut_string)
set_option linter.unusedVariables false

theorem own : ownKnob Try.prog.godebug = none := by kernel_rfl
theorem laidOut : laidOutB Try.prog = true := by kernel_rfl

/-- WHAT THE WALK IS TOLD OF A SLICE OF INTEGERS THAT CAME IN: it is nil; or it leads to a row of 'cap' cells, the numbers 'zs' (the first 'len' are its elements, the rest its spare room), each fitting its kind. -/
def IsRow (k : IntKind) (w : World) (a : Option Addr) (len cap : Nat) (zs : List Int) : Prop :=
  (a = none ∧ len = 0 ∧ cap = 0 ∧ zs = []) ∨
  ∃ x, a = some x ∧ len ≤ cap ∧ cap ≤ maxLen ∧ zs.length = cap ∧ (∀ i, i < zs.length → w.cell? (x.add i) = some (.int k (zs.getD i 0))) ∧ ∀ n ∈ zs, (Lit.int k n).wf = true

set_option linter.unusedSimpArgs false
theorem row_of {w : World} {a : Option Addr} {len cap : Nat} {zs : List Int} (h : IsRow .u8 w a len cap zs) : Row w.heap.size a len w := by
  intro i hi
  rcases h with ⟨rfl, rfl, rfl, rfl⟩ | ⟨x, rfl, hl, hm, hz, hcell, hwz⟩
  · omega
  · obtain ⟨b, off, spot⟩ := x
    have hspot : spot = none := by simpa [Addr.add] using World.cell?_spot (hcell 0 (by omega))
    subst hspot
    have hc := hcell i (by omega)
    have hc' : w.cell? ⟨b, off + i, none⟩ = some (.int .u8 (zs.getD i 0)) := by
      by_cases h0 : i = 0
      · subst h0; simpa [Addr.add] using hc
      · simpa [Addr.add, h0] using hc
    have hlt : i < zs.length := by omega
    have hm : zs.getD i 0 ∈ zs := by simp [List.getD, List.getElem?_eq_getElem hlt]
    obtain ⟨z0, z1⟩ := bounds_u8 (hwz _ hm)
    exact ⟨b, off, zs.getD i 0, rfl, World.block_lt_of_cell? w _ hc', hc', z0, z1⟩
theorem below_stepx {w x y : World} (h : Below w.heap.size w x) (k : Below x.heap.size x y) : Below w.heap.size w y := h.trans (k.mono h.size)
theorem far_le {d d' t t' : Int} (h : d ≤ d') : (levelFar d t).1 ≤ (levelFar d' t').1 := by
  unfold levelFar
  split <;> split <;> (try split) <;> (try split) <;> (try split) <;> (try split) <;> simp only <;> omega
theorem far_in (d t : Int) : 0 ≤ (levelFar d t).1 ∧ (levelFar d t).1 ≤ 3 ∧ 0 ≤ (levelFar d t).2 ∧ (levelFar d t).2 < 64 := by
  unfold levelFar
  split
  · simp only; omega
  · split
    · simp only; omega
    · split
      · simp only; omega
      · simp only; omega
/-- What is told: none, or a level and a slot, and of a later time that is one no lower level. -/
theorem level_cases (n a : Int) : levelOf n a = (-1, -1) ∨ ((0 ≤ (levelOf n a).1 ∧ (levelOf n a).1 ≤ 3 ∧ 0 ≤ (levelOf n a).2 ∧ (levelOf n a).2 < 64) ∧ (0 ≤ a ∧ a ≤ 1000000000000000) ∧ ∀ p, 0 ≤ p → (levelOf n a).1 ≤ (levelOf n (a + p)).1 ∨ (levelOf n (a + p)).1 = -1) := by
  cases h : levelOk n a
  · exact .inl (level_no h)
  · refine .inr ?_
    have h' := h
    unfold levelOk at h'
    rw [Bool.and_eq_true, Bool.and_eq_true] at h'
    have ha : 0 ≤ a ∧ a ≤ 1000000000000000 := by simpa [timeB] using h'.1.2
    rw [level_yes h]
    refine ⟨far_in _ _, ⟨ha.1, ha.2⟩, fun p hp => ?_⟩
    cases k : levelOk n (a + p)
    · rw [level_no k]
      exact .inr rfl
    · rw [level_yes k]
      exact .inl (far_le (by omega))

/-! ### STEP 1: THE WALK: the Go text returns true, AND WRITES NOTHING THAT WAS THERE: 'Below w.heap.size w w'' (Derived/Below.lean: '.refl', '.alloc', '.drew', '.setCell' at a new block, '.trans'). Open each 'IsRow' by 'rcases' AHEAD of 'go_enter'; part every test ahead of the walk. -/
set_option maxHeartbeats 4000000 in
theorem walk (a0 : Option Addr) (len0 cap0 : Nat) (z0 : List Int) (w : World) (w0 : IsRow .u8 w a0 len0 cap0 z0) :
    Calls Try.prog 6 #[.slice a0 len0 cap0] w fun e w' => e = .returned (.bool true) ∧ Below w.heap.size w w' := by
  have row := row_of w0
  by_cases hs : len0 ≤ 4096
  · go_enter Try.func6, Try.ntmps6
    go_upto_region 4 with (first
      | (go_at_call 27; refine (drawLevel_any cap0 hs row (Nat.le_refl _)).mono ?_; rintro e w1 ⟨n, a, rfl, hbw⟩; have zb := hbw.size)
      | go_in)
    rcases level_cases n a with hT | ⟨⟨h1, h2, h3, h4⟩, ha, hmono⟩
    · have HT : Hid (levelOf n a = (-1, -1)) := hT
      clear hT
      go_wp2_with (first
        | (go_at_call 28; refine (implLevel_any n a _).mono ?_; rintro e w2 ⟨rfl, hb2⟩; rw [HT.out]; have hbw := below_stepx hbw hb2)
        | (go_at_call 29; refine (specLevel_any n a _).mono ?_; rintro e w2 ⟨rfl, rfl⟩; rw [HT.out]))
      go_ret
      exact ⟨rfl, hbw⟩
    · obtain ⟨P, hP⟩ : ∃ P, levelOf n a = P := ⟨_, rfl⟩
      rw [hP] at h1 h2 h3 h4 hmono
      have HP : Hid (levelOf n a = P) := hP
      have HM : Hid (∀ p, 0 ≤ p → P.1 ≤ (levelOf n (a + p)).1 ∨ (levelOf n (a + p)).1 = -1) := hmono
      clear hP hmono
      obtain ⟨lv, sl⟩ := P
      simp only at h1 h2 h3 h4
      have h1' : decide (lv < 0) = false := decide_eq_false (by omega)
      have h2' : decide (lv ≤ 3) = true := decide_eq_true h2
      have h3' : decide (0 ≤ sl) = true := decide_eq_true h3
      have h4' : decide (sl < 64) = true := decide_eq_true h4
      go_upto_region 11 with (first
        | (go_at_call 28; have g1 := im1; refine (implLevel_any n (a + p) _).mono ?_; rintro e w5 ⟨rfl, hb5⟩; obtain ⟨Q, hQ⟩ : ∃ Q, levelOf n (a + p) = Q := ⟨_, rfl⟩; have hM := HM.out p hp0; rw [hQ] at hM; rw [hQ]; have hbw := below_stepx hbw hb5; clear hQ)
        | (go_at_call 28; refine (implLevel_any n a _).mono ?_; rintro e w2 ⟨rfl, hb2⟩; rw [HP.out]; have hbw := below_stepx hbw hb2; have im1 := hbw)
        | (go_at_call 11; refine (pickN_any cap0 5000000000 (by omega) (by omega) (by omega) (row.mono hbw)).mono ?_; rintro e w2 ⟨p, rfl, hp0, hp1, hp2, rfl⟩; have ew : IntKind.i64.wrap (a + p) = a + p := (by rw [IntKind.wrap_i64]; omega))
        | (go_at_call 29; refine (specLevel_any n a _).mono ?_; rintro e w2 ⟨rfl, rfl⟩; rw [HP.out]))
      obtain ⟨ml, ms⟩ := Q
      simp only at hM
      rcases hM with hM | hM
      · have hM' : decide (lv ≤ ml) = true := decide_eq_true hM
        go_wp2
        go_ret
        exact ⟨rfl, hbw⟩
      · have hM' : decide (lv ≤ ml) = false := decide_eq_false (by omega)
        subst hM
        go_wp2
        go_ret
        exact ⟨rfl, hbw⟩
  · have hbig : (4096 : Int) < (len0 : Int) := by omega
    go_enter Try.func6, Try.ntmps6
    go_wp2
    go_ret
    exact ⟨rfl, Below.refl _ _⟩

/-! ### THE ROW's STEP: WRITTEN OUT: LEAVE IT -/
set_option maxRecDepth 100000 in
theorem lifted (os : Os) (started : os.Started) (H : Type) (enc : TypeId × Value → H) :
    ReturnsInHanded {} Try.checked os 6 .any (Rows.fnLevelsSpec.pre6 enc Try.prog Try.f6 Rows.fnLevelsRow.domain false) (Rows.fnLevelsSpec.post enc Try.prog Try.f6 false true false false) := by
  refine returnsInHanded_of_change (C := Try.checked) own started (by kernel_rfl) Try.func6
    (ChangeSpec.witness6 (enc := enc) (C := Try.checked) false ⟨#[], #[.slice none 0 0], []⟩ 8 (by kernel_rfl) (by kernel_rfl) (by kernel_rfl) (by kernel_rfl)) ?_
  intro W base args ds gs before hval0 hW hcnd _
  have hval : ∀ (j : Nat) t v, Try.f6.params[j]? = some t → args[j]? = some v → Value.okWide Try.prog W .any base t v := hval0
  have hW' := hW
  obtain ⟨p, q, hA0, hV, rfl, hfz, hnd⟩ := hW
  have hA : DataW.TrodAll enc Try.prog W 0 (fun _ => true) true Try.f6.params.toList args.toList ds p := hA0
  rw [Try.params6] at hA hval
  obtain ⟨v0, vs0, d0, ds0, p0, q0, hargs, rfl, rfl, h0, r0⟩ := trodAll_cons hA
  obtain ⟨rfl, rfl, rfl⟩ := trodAll_nil r0
  obtain rfl : args = #[v0] := by cases args; simp_all
  obtain ⟨rfl, rfl⟩ := trodVars_none hV
  obtain ⟨a0, len0, cap0, rfl⟩ := okWide_slice Try.underlying22 (hval 0 22 v0 rfl rfl)
  have k0 := h0
  have lt0 : ∀ x ∈ p0, x.block < W.heap.size := by obtain ⟨m, hm⟩ := k0; exact DataW.trod_lt m _ _ _ hm
  obtain ⟨z0, w0⟩ : ∃ zs, IsRow .u8 W a0 len0 cap0 zs := by
    obtain ⟨fuel, hf⟩ := h0
    rcases open_ints Try.underlying22 Try.underlying5 (by kernel_rfl) hf with ⟨hcs, _⟩ | ⟨x, l, c, zs, hcs, _, hl, hm, hz, _, hcell, hwz⟩
    · simp [Value.cells] at hcs
      obtain ⟨rfl, rfl, rfl⟩ := hcs
      exact ⟨[], .inl ⟨rfl, rfl, rfl, rfl⟩⟩
    · simp [Value.cells] at hcs
      obtain ⟨rfl, rfl, rfl⟩ := hcs
      exact ⟨zs, .inr ⟨_, rfl, hl, hm, by simpa using hz, hcell, hwz⟩⟩
  clear hA0 hval0
  refine (walk a0 len0 cap0 z0 W w0).mono fun e W' ⟨he, bel⟩ => ?_
  subst he
  exact ⟨_, rfl, _, _, _, [], _, [], hW', trodAll_mk1 (shut_bool Try.underlying4 _), (trodAll_cons_mk (Below.trod laidOut (by kernel_rfl) (of_decide_eq_true (by kernel_rfl)) k0 bel lt0) trodAll_mk0), rfl, bel.frame _, fun h => by cases h⟩

theorem over : Rows.fnLevelsRow.holds Try.pinned (OpenSpec.ofChange Rows.fnLevelsSpec) :=
  OpenClaim.holds_of_wide 6 Try.f6 rfl rfl rfl rfl rfl rfl rfl ⟨rfl, rfl, rfl, rfl, rfl⟩ rfl rfl rfl rfl rfl (by kernel_rfl) Try.func6 (by kernel_rfl)
    (of_decide_eq_true (by kernel_rfl)) (by unfold Func.isWrapper; first | (rw [if_pos (by decide +kernel)]; kernel_rfl) | (rw [if_neg (by decide +kernel)]; exact ⟨rfl, rfl⟩))
    (fun os started H enc _ => lifted os started H enc)

/-- ████ THE STATEMENT ████ -/
theorem proved : Rows.FnLevelsSaid := over
#print axioms proved
end Go.Proofs.Ytcmgaaopkhjelac.fnLevels
namespace Go.Proofs.Ytcmgaaopkhjelac
theorem fnLevels_holds : Rows.FnLevelsSaid := fnLevels.proved
#print axioms fnLevels_holds
end Go.Proofs.Ytcmgaaopkhjelac
