/- Proved: whatever the bytes, the law FnMeasured returns true (at the trip and the time that the model draws of them impl's Measure, Wait and Expire answer as spec's do, and an estimate lies between what was known and what was measured), and the bytes read as before; no condition. -/
import Derived.Test.YtohenfogiegkmadRows
import Derived.WalkKit
import Derived.ProofKit
import Derived.OpenShut
import Derived.ShutString
import Derived.ChangeOld
import Derived.Below
import Derived.Test.YtohenfogiegkmadDraw9d
import Derived.Test.YtohenfogiegkmadImplTrip
namespace Go.Proofs.Ytohenfogiegkmad.fnMeasured
open Go.ChangeShapes Go.WideShapes Go.ChangeAt Go.RowKit
open Go.ChangeMaps (open_string shut_string)
set_option linter.unusedVariables false

theorem own : ownKnob Try.prog.godebug = none := by kernel_rfl
theorem laidOut : laidOutB Try.prog = true := by kernel_rfl

/-- WHAT THE WALK IS TOLD OF A SLICE OF INTEGERS THAT CAME IN: it is nil; or it leads to a row of 'cap' cells, the numbers 'zs' (the first 'len' are its elements, the rest its spare room), each fitting its kind. -/
def IsRow (k : IntKind) (w : World) (a : Option Addr) (len cap : Nat) (zs : List Int) : Prop :=
  (a = none ∧ len = 0 ∧ cap = 0 ∧ zs = []) ∨
  ∃ x, a = some x ∧ len ≤ cap ∧ cap ≤ maxLen ∧ zs.length = cap ∧ (∀ i, i < zs.length → w.cell? (x.add i) = some (.int k (zs.getD i 0))) ∧ ∀ n ∈ zs, (Lit.int k n).wf = true

set_option linter.unusedSimpArgs false
theorem lt_of_x {w w' : World} {A : Obj} (h : Below (w.alloc A).heap.size (w.alloc A) w') : w.heap.size < w'.heap.size := by
  have := h.size
  simp at this
  omega
theorem undrewM {w w' : World} (h : Below w.drew.heap.size w.drew w') : Below w.heap.size w w' := (Below.refl _ _).drew.trans h
theorem row_of {w : World} {a : Option Addr} {len cap : Nat} {zs : List Int} (h : IsRow .u8 w a len cap zs) : Row w.heap.size a len w := by
  intro i hi
  rcases h with ⟨rfl, rfl, rfl, rfl⟩ | ⟨x, rfl, hl, hm, hz, hcell, hwz⟩
  · omega
  · obtain ⟨b, off, spot⟩ := x
    have hspot : spot = none := by simpa [Addr.add] using World.cell?_spot (hcell 0 (by omega))
    subst hspot
    have hc := hcell i (by omega)
    have hc' : w.cell? ⟨b, off + i, none⟩ = some (.int .u8 (zs.getD i 0)) := by
      by_cases h0 : i = 0
      · subst h0; simpa [Addr.add] using hc
      · simpa [Addr.add, h0] using hc
    have hlt : i < zs.length := by omega
    have hm : zs.getD i 0 ∈ zs := by simp [List.getD, List.getElem?_eq_getElem hlt]
    obtain ⟨z0, z1⟩ := bounds_u8 (hwz _ hm)
    exact ⟨b, off, zs.getD i 0, rfl, World.block_lt_of_cell? w _ hc', hc', z0, z1⟩
theorem tok_meas {k : Bool} {x y z n : Int} (h : measB k x y z n = true) : ∃ X Y, measOf k x y z n = (true, X, Y, 0) ∧ tokB true X Y 0 = true ∧ (k = false → X = n ∧ Y = n / 2) ∧ (k = true → (x ≤ X ∧ X ≤ n) ∨ (¬ (x ≤ X ∧ X ≤ n) ∧ X ≤ x ∧ n - 1 ≤ X)) := by
  obtain ⟨h1, h2, hs, hv, hn⟩ := meas_num h
  have ok : ∀ X Y : Int, 0 ≤ X → X ≤ 1000000000000000 → 0 ≤ Y → Y ≤ 1000000000000000 → tokB true X Y 0 = true := by
    intro X Y a b c d
    unfold tokB timeB backB noneB
    rw [decide_eq_true a, decide_eq_true b, decide_eq_true c, decide_eq_true d]
    rfl
  unfold measOf
  rw [if_pos h]
  unfold measIn
  cases k
  · refine ⟨n, n / 2, rfl, ok _ _ (by omega) (by omega) (by omega) (by omega), fun _ => ⟨rfl, rfl⟩, fun e => (by cases e)⟩
  · have ha := absOf_bd (x := x - n) (by omega) (by omega)
    refine ⟨(7 * x + n) / 8, (3 * y + absOf (x - n)) / 4, rfl, ok _ _ (by omega) (by omega) (by omega) (by omega), fun e => (by cases e), fun _ => ?_⟩
    by_cases hc : x ≤ (7 * x + n) / 8 ∧ (7 * x + n) / 8 ≤ n
    · exact .inl hc
    · exact .inr ⟨hc, by omega, by omega⟩
theorem meas_out {k : Bool} {x y z n : Int} (h : measB k x y z n = false) : measOf k x y z n = (false, 0, 0, 0) := if_neg (by rw [h]; decide)

/-! ### STEP 1: THE WALK: the Go text returns true, AND WRITES NOTHING THAT WAS THERE: 'Below w.heap.size w w'' (Derived/Below.lean: '.refl', '.alloc', '.drew', '.setCell' at a new block, '.trans'). Open each 'IsRow' by 'rcases' AHEAD of 'go_enter'; part every test ahead of the walk. -/
set_option maxHeartbeats 8000000 in
theorem walk (a0 : Option Addr) (len0 cap0 : Nat) (z0 : List Int) (w : World) (w0 : IsRow .u8 w a0 len0 cap0 z0) :
    Calls Try.prog 8 #[.slice a0 len0 cap0] w fun e w' => e = .returned (.bool true) ∧ Below w.heap.size w w' := by
  have row := row_of w0
  by_cases hs : len0 ≤ 4096
  · go_enter Try.func8, Try.ntmps8
    go_upto_region 4 with (first
      | (go_at_call 37; refine (drawMeasure_any cap0 hs row (Nat.le_refl _)).mono ?_; rintro e w1 ⟨k, x, y, z, n, rfl, hbw⟩; have zb := hbw.size)
      | go_in)
    obtain ⟨mk, mx, my, mz, hM⟩ : ∃ mk mx my mz, measOf k x y z n = (mk, mx, my, mz) := ⟨_, _, _, _, rfl⟩
    obtain ⟨W, hW⟩ : ∃ W, waitOf9 k x y z = W := ⟨_, rfl⟩
    obtain ⟨ek, ex, ey, ez, hE⟩ : ∃ ek ex ey ez, expOf k x y z = (ek, ex, ey, ez) := ⟨_, _, _, _, rfl⟩
    have HM : Hid (measOf k x y z n = (mk, mx, my, mz)) := hM
    have HW : Hid (waitOf9 k x y z = W) := hW
    have HE : Hid (expOf k x y z = (ek, ex, ey, ez)) := hE
    clear hM hW hE
    go_upto_region 5 with (first
      | (go_at_call 38; refine (implMeasure_any k x y z n _).mono ?_; rintro e w2 ⟨rfl, hb2⟩; rw [HM.out]; have hbw := below_two (w := w) (by go_grown) hb2; have zx := lt_of_x hb2; have k0 := (below_cells4 hb2 w1.heap.size 0 (by simp)).trans (by go_simp; rfl); have k1 := (below_cells4 hb2 w1.heap.size 1 (by simp)).trans (by go_simp; rfl); have k2 := (below_cells4 hb2 w1.heap.size 2 (by simp)).trans (by go_simp; rfl); have k3 := (below_cells4 hb2 w1.heap.size 3 (by simp)).trans (by go_simp; rfl)))
    obtain ⟨v, hv⟩ : ∃ v, v = w2.alloc (.cells #[.bool mk, .int .i64 mx, .int .i64 my, .int .i64 mz] 67) := ⟨_, rfl⟩
    rw [← hv]
    obtain ⟨bt, hbt⟩ : ∃ b, b = w1.heap.size := ⟨_, rfl⟩
    obtain ⟨bm, hbm⟩ : ∃ b, b = w2.heap.size := ⟨_, rfl⟩
    have hbv : Below w2.heap.size w2 v := by rw [hv]; exact (Below.refl _ _).alloc (Nat.le_refl _) _
    rw [← hbt] at k0 k1 k2 k3 zx ⊢
    rw [← hbm]
    have HS : Hid (∀ w', Below v.heap.size v w' → w'.cell? ⟨bt, 0, none⟩ = some (.bool k) ∧ w'.cell? ⟨bt, 1, none⟩ = some (.int .i64 x) ∧ w'.cell? ⟨bt, 2, none⟩ = some (.int .i64 y) ∧ w'.cell? ⟨bt, 3, none⟩ = some (.int .i64 z) ∧ w'.cell? ⟨bm, 0, none⟩ = some (.bool mk) ∧ w'.cell? ⟨bm, 1, none⟩ = some (.int .i64 mx) ∧ w'.cell? ⟨bm, 2, none⟩ = some (.int .i64 my) ∧ w'.cell? ⟨bm, 3, none⟩ = some (.int .i64 mz)) := fun w' h => by
      have hz : v.heap.size = w2.heap.size + 1 := by rw [hv]; simp
      have hc : ∀ o : Nat, w'.cell? ⟨bt, o, none⟩ = w2.cell? ⟨bt, o, none⟩ := fun o => (h.cell (p := ⟨bt, o, none⟩) (by show bt < v.heap.size; omega)).trans (hbv.cell (p := ⟨bt, o, none⟩) (by show bt < w2.heap.size; omega))
      have hd : ∀ o : Nat, w'.cell? ⟨bm, o, none⟩ = v.cell? ⟨bm, o, none⟩ := fun o => h.cell (p := ⟨bm, o, none⟩) (by show bm < v.heap.size; omega)
      refine ⟨(hc 0).trans k0, (hc 1).trans k1, (hc 2).trans k2, (hc 3).trans k3, (hd 0).trans ?_, (hd 1).trans ?_, (hd 2).trans ?_, (hd 3).trans ?_⟩ <;> (rw [hv, hbm]; go_simp)
    have hbw := below_two hbw hbv
    clear hv hbv hbt hbm k0 k1 k2 k3 hb2 zx
    refine wp_region_held_drew (S := fun w' => w'.cell? ⟨bt, 0, none⟩ = some (.bool k) ∧ w'.cell? ⟨bt, 1, none⟩ = some (.int .i64 x) ∧ w'.cell? ⟨bt, 2, none⟩ = some (.int .i64 y) ∧ w'.cell? ⟨bt, 3, none⟩ = some (.int .i64 z) ∧ w'.cell? ⟨bm, 0, none⟩ = some (.bool mk) ∧ w'.cell? ⟨bm, 1, none⟩ = some (.int .i64 mx) ∧ w'.cell? ⟨bm, 2, none⟩ = some (.int .i64 my) ∧ w'.cell? ⟨bm, 3, none⟩ = some (.int .i64 mz)) (by kernel_rfl) (HS.out _ (Below.refl _ _).drew) (fun hS => ?_)
    refine wpAnyH_take (i := 0) (v := ?_) rfl (by kernel_rfl) (by kernel_rfl) (by kernel_rfl) (fun _ _ _ h => h) (Or.inl ⟨by rfl, ?_⟩) (by assumption) ?_
    rotate_left 1
    · (intro w' hSw; (try dsimp only at hSw); go_simp; try with_reducible rfl)
    try simp only [Act.put, List.setIfInBounds_toArray, List.set_cons_zero, List.set_cons_succ, List.getElem_toArray, List.getElem_cons_succ, List.getElem_cons_zero]
    refine wpAnyH_take (i := 1) (v := ?_) rfl (by kernel_rfl) (by kernel_rfl) (by kernel_rfl) (fun _ _ _ h => h) (Or.inl ⟨by rfl, ?_⟩) (by assumption) ?_
    rotate_left 1
    · (intro w' hSw; (try dsimp only at hSw); go_simp; try with_reducible rfl)
    try simp only [Act.put, List.setIfInBounds_toArray, List.set_cons_zero, List.set_cons_succ, List.getElem_toArray, List.getElem_cons_succ, List.getElem_cons_zero]
    refine wpAnyH_take (i := 2) (v := ?_) rfl (by kernel_rfl) (by kernel_rfl) (by kernel_rfl) (fun _ _ _ h => h) (Or.inl ⟨by rfl, ?_⟩) (by assumption) ?_
    rotate_left 1
    · (intro w' hSw; (try dsimp only at hSw); go_simp; try with_reducible rfl)
    try simp only [Act.put, List.setIfInBounds_toArray, List.set_cons_zero, List.set_cons_succ, List.getElem_toArray, List.getElem_cons_succ, List.getElem_cons_zero]
    refine wpAnyH_ready (rs := [3]) (by kernel_rfl) (by simp) (AllReadyH.cons rfl (fun K hK => ?_) AllReadyH.nil)
    go_simp
    (refine (specMeasure_any k x y z n _).mono ?_; rintro e u1 ⟨rfl, hbq⟩; rw [HM.out]; have hr := undrewM hbq; have hSq := HS.out _ hr)
    refine hK.out _ _ (by assumption) (fun _ => ?_)
    try simp only [Act.put, List.setIfInBounds_toArray, List.set_cons_zero, List.set_cons_succ, List.getElem_toArray, List.getElem_cons_succ, List.getElem_cons_zero]
    refine wpAnyH_take (i := 4) (v := ?_) rfl (by kernel_rfl) (by kernel_rfl) (by kernel_rfl) (fun _ _ _ h => h) (Or.inl ⟨by rfl, ?_⟩) (by assumption) ?_
    rotate_left 1
    · (intro w' hSw; (try dsimp only at hSw); go_simp; try with_reducible rfl)
    try simp only [Act.put, List.setIfInBounds_toArray, List.set_cons_zero, List.set_cons_succ, List.getElem_toArray, List.getElem_cons_succ, List.getElem_cons_zero]
    refine wpAnyH_take (i := 5) (v := ?_) rfl (by kernel_rfl) (by kernel_rfl) (by kernel_rfl) (fun _ _ _ h => h) (Or.inl ⟨by rfl, ?_⟩) (by assumption) ?_
    rotate_left 1
    · (intro w' hSw; (try dsimp only at hSw); go_simp; try with_reducible rfl)
    try simp only [Act.put, List.setIfInBounds_toArray, List.set_cons_zero, List.set_cons_succ, List.getElem_toArray, List.getElem_cons_succ, List.getElem_cons_zero]
    refine wpAnyH_take (i := 6) (v := ?_) rfl (by kernel_rfl) (by kernel_rfl) (by kernel_rfl) (fun _ _ _ h => h) (Or.inl ⟨by rfl, ?_⟩) (by assumption) ?_
    rotate_left 1
    · (intro w' hSw; (try dsimp only at hSw); go_simp; try with_reducible rfl)
    try simp only [Act.put, List.setIfInBounds_toArray, List.set_cons_zero, List.set_cons_succ, List.getElem_toArray, List.getElem_cons_succ, List.getElem_cons_zero]
    refine wpAnyH_take (i := 8) (v := ?_) rfl (by kernel_rfl) (by kernel_rfl) (by kernel_rfl) (fun _ _ _ h => h) (Or.inl ⟨by rfl, ?_⟩) (by assumption) ?_
    rotate_left 1
    · (intro w' hSw; (try dsimp only at hSw); go_simp; try with_reducible rfl)
    try simp only [Act.put, List.setIfInBounds_toArray, List.set_cons_zero, List.set_cons_succ, List.getElem_toArray, List.getElem_cons_succ, List.getElem_cons_zero]
    refine wpAnyH_ready (rs := [7]) (by kernel_rfl) (by simp) (AllReadyH.cons rfl (fun K hK => ?_) AllReadyH.nil)
    go_simp
    (refine (implWait_any k x y z _).mono ?_; rintro e u2 ⟨rfl, hbq⟩; rw [HW.out]; have hr := hr.trans (hbq.mono hr.size); have hSq := HS.out _ hr)
    refine hK.out _ _ (by assumption) (fun _ => ?_)
    try simp only [Act.put, List.setIfInBounds_toArray, List.set_cons_zero, List.set_cons_succ, List.getElem_toArray, List.getElem_cons_succ, List.getElem_cons_zero]
    refine wpAnyH_ready (rs := [9]) (by kernel_rfl) (by simp) (AllReadyH.cons rfl (fun K hK => ?_) AllReadyH.nil)
    go_simp
    (refine (specWait_any k x y z _).mono ?_; rintro e u3 ⟨rfl, hbq⟩; rw [HW.out]; have hr := hr.trans (hbq.mono hr.size); have hSq := HS.out _ hr)
    refine hK.out _ _ (by assumption) (fun _ => ?_)
    try simp only [Act.put, List.setIfInBounds_toArray, List.set_cons_zero, List.set_cons_succ, List.getElem_toArray, List.getElem_cons_succ, List.getElem_cons_zero]
    refine wpAnyH_take (i := 10) (v := ?_) rfl (by kernel_rfl) (by kernel_rfl) (by kernel_rfl) (fun _ _ _ h => h) (Or.inl ⟨by rfl, ?_⟩) (by assumption) ?_
    rotate_left 1
    · (intro w' hSw; (try dsimp only at hSw); go_simp; try with_reducible rfl)
    try simp only [Act.put, List.setIfInBounds_toArray, List.set_cons_zero, List.set_cons_succ, List.getElem_toArray, List.getElem_cons_succ, List.getElem_cons_zero]
    refine wpAnyH_take (i := 11) (v := ?_) rfl (by kernel_rfl) (by kernel_rfl) (by kernel_rfl) (fun _ _ _ h => h) (Or.inl ⟨by rfl, ?_⟩) (by assumption) ?_
    rotate_left 1
    · (intro w' hSw; (try dsimp only at hSw); go_simp; try with_reducible rfl)
    try simp only [Act.put, List.setIfInBounds_toArray, List.set_cons_zero, List.set_cons_succ, List.getElem_toArray, List.getElem_cons_succ, List.getElem_cons_zero]
    refine wpAnyH_take (i := 12) (v := ?_) rfl (by kernel_rfl) (by kernel_rfl) (by kernel_rfl) (fun _ _ _ h => h) (Or.inl ⟨by rfl, ?_⟩) (by assumption) ?_
    rotate_left 1
    · (intro w' hSw; (try dsimp only at hSw); go_simp; try with_reducible rfl)
    try simp only [Act.put, List.setIfInBounds_toArray, List.set_cons_zero, List.set_cons_succ, List.getElem_toArray, List.getElem_cons_succ, List.getElem_cons_zero]
    refine wpAnyH_take (i := 13) (v := ?_) rfl (by kernel_rfl) (by kernel_rfl) (by kernel_rfl) (fun _ _ _ h => h) (Or.inl ⟨by rfl, ?_⟩) (by assumption) ?_
    rotate_left 1
    · (intro w' hSw; (try dsimp only at hSw); go_simp; try with_reducible rfl)
    try simp only [Act.put, List.setIfInBounds_toArray, List.set_cons_zero, List.set_cons_succ, List.getElem_toArray, List.getElem_cons_succ, List.getElem_cons_zero]
    refine wpAnyH_take (i := 15) (v := ?_) rfl (by kernel_rfl) (by kernel_rfl) (by kernel_rfl) (fun _ _ _ h => h) (Or.inl ⟨by rfl, ?_⟩) (by assumption) ?_
    rotate_left 1
    · (intro w' hSw; (try dsimp only at hSw); go_simp; try with_reducible rfl)
    try simp only [Act.put, List.setIfInBounds_toArray, List.set_cons_zero, List.set_cons_succ, List.getElem_toArray, List.getElem_cons_succ, List.getElem_cons_zero]
    refine wpAnyH_ready (rs := [14]) (by kernel_rfl) (by simp) (AllReadyH.cons rfl (fun K hK => ?_) AllReadyH.nil)
    go_simp
    (refine (implExpire_any k x y z _).mono ?_; rintro e u4 ⟨rfl, hbq⟩; rw [HE.out]; have hr := hr.trans (hbq.mono hr.size); have hSq := HS.out _ hr)
    refine hK.out _ _ (by assumption) (fun _ => ?_)
    try simp only [Act.put, List.setIfInBounds_toArray, List.set_cons_zero, List.set_cons_succ, List.getElem_toArray, List.getElem_cons_succ, List.getElem_cons_zero]
    refine wpAnyH_ready (rs := [16]) (by kernel_rfl) (by simp) (AllReadyH.cons rfl (fun K hK => ?_) AllReadyH.nil)
    go_simp
    (refine (specExpire_any k x y z _).mono ?_; rintro e u5 ⟨rfl, hbq⟩; rw [HE.out]; have hr := hr.trans (hbq.mono hr.size); have hSq := HS.out _ hr)
    refine hK.out _ _ (by assumption) (fun _ => ?_)
    try simp only [Act.put, List.setIfInBounds_toArray, List.set_cons_zero, List.set_cons_succ, List.getElem_toArray, List.getElem_cons_succ, List.getElem_cons_zero]
    refine wpAnyH_take (i := 17) (v := ?_) rfl (by kernel_rfl) (by kernel_rfl) (by kernel_rfl) (fun _ _ _ h => h) (Or.inl ⟨by rfl, ?_⟩) (by assumption) ?_
    rotate_left 1
    · (intro w' hSw; (try dsimp only at hSw); go_simp; try with_reducible rfl)
    try simp only [Act.put, List.setIfInBounds_toArray, List.set_cons_zero, List.set_cons_succ, List.getElem_toArray, List.getElem_cons_succ, List.getElem_cons_zero]
    refine wpAnyH_take (i := 18) (v := ?_) rfl (by kernel_rfl) (by kernel_rfl) (by kernel_rfl) (fun _ _ _ h => h) (Or.inl ⟨by rfl, ?_⟩) (by assumption) ?_
    rotate_left 1
    · (intro w' hSw; (try dsimp only at hSw); go_simp; try with_reducible rfl)
    try simp only [Act.put, List.setIfInBounds_toArray, List.set_cons_zero, List.set_cons_succ, List.getElem_toArray, List.getElem_cons_succ, List.getElem_cons_zero]
    refine wpAnyH_done (by kernel_rfl) ?_ _
    have ⟨i0, i1, i2, i3, i4, i5, i6, i7⟩ := HS.out _ hr
    have hbw := below_two hbw hr
    cases hb : measB k x y z n
    · have e0 := HM.out.symm.trans (meas_out hb)
      injection e0 with e1 e0
      injection e0 with e2 e0
      injection e0 with e3 e4
      subst e1 e2 e3 e4
      cases ht : tokB k x y z
      · have HT : Hid (tokB k x y z = false) := ht
        clear ht hb
        go_wp2_with (first | (go_at_call 44; refine (specTripOk_is HT.out _).mono ?_; rintro e u6 ⟨rfl, hb6⟩; have hbw := hbw.trans (hb6.mono hbw.size); have hr6 := hr.trans (hb6.mono hr.size); have ⟨i0, i1, i2, i3, i4, i5, i6, i7⟩ := HS.out _ hr6))
        go_ret
        exact ⟨rfl, hbw⟩
      · have HT : Hid (tokB k x y z = true) := ht
        have hnt : timeB n = false := by unfold measB at hb; rw [ht] at hb; exact hb
        have hn : n < 0 ∨ (decide (n < 0) = false ∧ 1000000000000000 < n) := by
          rcases Int.lt_or_le n 0 with h | h
          · exact .inl h
          · refine .inr ⟨decide_eq_false (by omega), ?_⟩
            unfold timeB at hnt
            rw [decide_eq_true h, Bool.true_and, decide_eq_false_iff_not] at hnt
            omega
        clear ht hb hnt
        rcases hn with hn | ⟨hn, hn'⟩
        · go_wp2_with (first | (go_at_call 44; refine (specTripOk_is HT.out _).mono ?_; rintro e u6 ⟨rfl, hb6⟩; have hbw := hbw.trans (hb6.mono hbw.size); have hr6 := hr.trans (hb6.mono hr.size); have ⟨i0, i1, i2, i3, i4, i5, i6, i7⟩ := HS.out _ hr6))
          go_ret
          exact ⟨rfl, hbw⟩
        · go_wp2_with (first | (go_at_call 44; refine (specTripOk_is HT.out _).mono ?_; rintro e u6 ⟨rfl, hb6⟩; have hbw := hbw.trans (hb6.mono hbw.size); have hr6 := hr.trans (hb6.mono hr.size); have ⟨i0, i1, i2, i3, i4, i5, i6, i7⟩ := HS.out _ hr6))
          go_ret
          exact ⟨rfl, hbw⟩
    · obtain ⟨X, Y, e0, hok, hno, hye⟩ := tok_meas hb
      have nn := (meas_num hb).2.2.2.2
      have e0 := HM.out.symm.trans e0
      injection e0 with e1 e0
      injection e0 with e2 e0
      injection e0 with e3 e4
      subst e1 e2 e3 e4
      have HT : Hid (tokB true mx my 0 = true) := hok
      cases k
      · obtain ⟨rfl, rfl⟩ := hno rfl
        have ed := tdivT nn.1 2
        clear hno hye hok hb
        go_wp2_with (first | (go_at_call 45; refine (implTripOk_is HT.out _).mono ?_; rintro e u6 ⟨rfl, hb6⟩; have hbw := hbw.trans (hb6.mono hbw.size); have hr6 := hr.trans (hb6.mono hr.size); have ⟨i0, i1, i2, i3, i4, i5, i6, i7⟩ := HS.out _ hr6))
        go_ret
        exact ⟨rfl, hbw⟩
      · have hw : IntKind.i64.wrap (n - 1) = n - 1 := by simp only [IntKind.wrap_i64, wrap64]; omega
        rcases hye rfl with ⟨h1, h2⟩ | ⟨h1, h2, h3⟩
        · clear hno hye hok hb
          go_wp2_with (first | (go_at_call 45; refine (implTripOk_is HT.out _).mono ?_; rintro e u6 ⟨rfl, hb6⟩; have hbw := hbw.trans (hb6.mono hbw.size); have hr6 := hr.trans (hb6.mono hr.size); have ⟨i0, i1, i2, i3, i4, i5, i6, i7⟩ := HS.out _ hr6))
          go_ret
          exact ⟨rfl, hbw⟩
        · clear hno hye hok hb
          by_cases h4 : x ≤ mx
          · have h5 : decide (mx ≤ n) = false := decide_eq_false (fun h => h1 ⟨h4, h⟩)
            clear h1
            go_wp2_with (first | (go_at_call 45; refine (implTripOk_is HT.out _).mono ?_; rintro e u6 ⟨rfl, hb6⟩; have hbw := hbw.trans (hb6.mono hbw.size); have hr6 := hr.trans (hb6.mono hr.size); have ⟨i0, i1, i2, i3, i4, i5, i6, i7⟩ := HS.out _ hr6))
            go_ret
            exact ⟨rfl, hbw⟩
          · have h4' : decide (x ≤ mx) = false := decide_eq_false h4
            clear h1
            go_wp2_with (first | (go_at_call 45; refine (implTripOk_is HT.out _).mono ?_; rintro e u6 ⟨rfl, hb6⟩; have hbw := hbw.trans (hb6.mono hbw.size); have hr6 := hr.trans (hb6.mono hr.size); have ⟨i0, i1, i2, i3, i4, i5, i6, i7⟩ := HS.out _ hr6))
            go_ret
            exact ⟨rfl, hbw⟩
  · have hbig : (4096 : Int) < (len0 : Int) := by omega
    go_enter Try.func8, Try.ntmps8
    go_wp2
    go_ret
    exact ⟨rfl, Below.refl _ _⟩

/-! ### THE ROW's STEP: WRITTEN OUT: LEAVE IT -/
set_option maxRecDepth 100000 in
theorem lifted (os : Os) (started : os.Started) (H : Type) (enc : TypeId × Value → H) :
    ReturnsInHanded {} Try.checked os 8 .any (Rows.fnMeasuredSpec.pre6 enc Try.prog Try.f8 Rows.fnMeasuredRow.domain false) (Rows.fnMeasuredSpec.post enc Try.prog Try.f8 false true false false) := by
  refine returnsInHanded_of_change (C := Try.checked) own started (by kernel_rfl) Try.func8
    (ChangeSpec.witness6 (enc := enc) (C := Try.checked) false ⟨#[], #[.slice none 0 0], []⟩ 8 (by kernel_rfl) (by kernel_rfl) (by kernel_rfl) (by kernel_rfl)) ?_
  intro W base args ds gs before hval0 hW hcnd _
  have hval : ∀ (j : Nat) t v, Try.f8.params[j]? = some t → args[j]? = some v → Value.okWide Try.prog W .any base t v := hval0
  have hW' := hW
  obtain ⟨p, q, hA0, hV, rfl, hfz, hnd⟩ := hW
  have hA : DataW.TrodAll enc Try.prog W 0 (fun _ => true) true Try.f8.params.toList args.toList ds p := hA0
  rw [Try.params8] at hA hval
  obtain ⟨v0, vs0, d0, ds0, p0, q0, hargs, rfl, rfl, h0, r0⟩ := trodAll_cons hA
  obtain ⟨rfl, rfl, rfl⟩ := trodAll_nil r0
  obtain rfl : args = #[v0] := by cases args; simp_all
  obtain ⟨rfl, rfl⟩ := trodVars_none hV
  obtain ⟨a0, len0, cap0, rfl⟩ := okWide_slice Try.underlying22 (hval 0 22 v0 rfl rfl)
  have k0 := h0
  have lt0 : ∀ x ∈ p0, x.block < W.heap.size := by obtain ⟨m, hm⟩ := k0; exact DataW.trod_lt m _ _ _ hm
  obtain ⟨z0, w0⟩ : ∃ zs, IsRow .u8 W a0 len0 cap0 zs := by
    obtain ⟨fuel, hf⟩ := h0
    rcases open_ints Try.underlying22 Try.underlying5 (by kernel_rfl) hf with ⟨hcs, _⟩ | ⟨x, l, c, zs, hcs, _, hl, hm, hz, _, hcell, hwz⟩
    · simp [Value.cells] at hcs
      obtain ⟨rfl, rfl, rfl⟩ := hcs
      exact ⟨[], .inl ⟨rfl, rfl, rfl, rfl⟩⟩
    · simp [Value.cells] at hcs
      obtain ⟨rfl, rfl, rfl⟩ := hcs
      exact ⟨zs, .inr ⟨_, rfl, hl, hm, by simpa using hz, hcell, hwz⟩⟩
  clear hA0 hval0
  refine (walk a0 len0 cap0 z0 W w0).mono fun e W' ⟨he, bel⟩ => ?_
  subst he
  exact ⟨_, rfl, _, _, _, [], _, [], hW', trodAll_mk1 (shut_bool Try.underlying4 _), (trodAll_cons_mk (Below.trod laidOut (by kernel_rfl) (of_decide_eq_true (by kernel_rfl)) k0 bel lt0) trodAll_mk0), rfl, bel.frame _, fun h => by cases h⟩

theorem over : Rows.fnMeasuredRow.holds Try.pinned (OpenSpec.ofChange Rows.fnMeasuredSpec) :=
  OpenClaim.holds_of_wide 8 Try.f8 rfl rfl rfl rfl rfl rfl rfl ⟨rfl, rfl, rfl, rfl, rfl⟩ rfl rfl rfl rfl rfl (by kernel_rfl) Try.func8 (by kernel_rfl)
    (of_decide_eq_true (by kernel_rfl)) (by unfold Func.isWrapper; first | (rw [if_pos (by decide +kernel)]; kernel_rfl) | (rw [if_neg (by decide +kernel)]; exact ⟨rfl, rfl⟩))
    (fun os started H enc _ => lifted os started H enc)

/-- ████ THE STATEMENT ████ -/
theorem proved : Rows.FnMeasuredSaid := over
#print axioms proved
end Go.Proofs.Ytohenfogiegkmad.fnMeasured
namespace Go.Proofs.Ytohenfogiegkmad
theorem fnMeasured_holds : Rows.FnMeasuredSaid := fnMeasured.proved
#print axioms fnMeasured_holds
end Go.Proofs.Ytohenfogiegkmad
