/- Proved: whatever the bytes, the law FnWaits returns true (at the trip that the model draws of them impl.Wait answers as spec's does, and each Expire doubles it, up to its bound), and the bytes read as before; no condition. -/
import Derived.Test.YtohenfogiegkmaeRows
import Derived.WalkKit
import Derived.ProofKit
import Derived.OpenShut
import Derived.ShutString
import Derived.ChangeOld
import Derived.Below
import Derived.Test.YtohenfogiegkmaeDraw9c
import Derived.Test.YtohenfogiegkmaeImplTrip
namespace Go.Proofs.Ytohenfogiegkmae.fnWaits
open Go.ChangeShapes Go.WideShapes Go.ChangeAt Go.RowKit
open Go.ChangeMaps (open_string shut_string)
set_option linter.unusedVariables false

theorem own : ownKnob Try.prog.godebug = none := by kernel_rfl
theorem laidOut : laidOutB Try.prog = true := by kernel_rfl

/-- WHAT THE WALK IS TOLD OF A SLICE OF INTEGERS THAT CAME IN: it is nil; or it leads to a row of 'cap' cells, the numbers 'zs' (the first 'len' are its elements, the rest its spare room), each fitting its kind. -/
def IsRow (k : IntKind) (w : World) (a : Option Addr) (len cap : Nat) (zs : List Int) : Prop :=
  (a = none ∧ len = 0 ∧ cap = 0 ∧ zs = []) ∨
  ∃ x, a = some x ∧ len ≤ cap ∧ cap ≤ maxLen ∧ zs.length = cap ∧ (∀ i, i < zs.length → w.cell? (x.add i) = some (.int k (zs.getD i 0))) ∧ ∀ n ∈ zs, (Lit.int k n).wf = true

set_option linter.unusedSimpArgs false
theorem lt_of_x {w w' : World} {A : Obj} (h : Below (w.alloc A).heap.size (w.alloc A) w') : w.heap.size < w'.heap.size := by
  have := h.size
  simp at this
  omega
theorem row_of {w : World} {a : Option Addr} {len cap : Nat} {zs : List Int} (h : IsRow .u8 w a len cap zs) : Row w.heap.size a len w := by
  intro i hi
  rcases h with ⟨rfl, rfl, rfl, rfl⟩ | ⟨x, rfl, hl, hm, hz, hcell, hwz⟩
  · omega
  · obtain ⟨b, off, spot⟩ := x
    have hspot : spot = none := by simpa [Addr.add] using World.cell?_spot (hcell 0 (by omega))
    subst hspot
    have hc := hcell i (by omega)
    have hc' : w.cell? ⟨b, off + i, none⟩ = some (.int .u8 (zs.getD i 0)) := by
      by_cases h0 : i = 0
      · subst h0; simpa [Addr.add] using hc
      · simpa [Addr.add, h0] using hc
    have hlt : i < zs.length := by omega
    have hm : zs.getD i 0 ∈ zs := by simp [List.getD, List.getElem?_eq_getElem hlt]
    obtain ⟨z0, z1⟩ := bounds_u8 (hwz _ hm)
    exact ⟨b, off, zs.getD i 0, rfl, World.block_lt_of_cell? w _ hc', hc', z0, z1⟩
theorem wait_in {k : Bool} {x y z : Int} (h : tokB k x y z = true) : 200000000 ≤ waitOf9 k x y z ∧ waitOf9 k x y z ≤ 60000000000 := by
  obtain ⟨hs, hv, m0, m1⟩ := tok_num h
  have hb : 200000000 ≤ baseT k x y := by unfold baseT; split <;> omega
  have hd : baseT k x y ≤ dblT (baseT k x y) z.toNat := by
    generalize z.toNat = j
    induction j with
    | zero => rw [dbl_zero]; exact Int.le_refl _
    | succ j ih => rw [dbl_succ]; omega
  unfold waitOf9
  rw [if_pos h]
  omega
theorem tok_next {k : Bool} {x y z : Int} (h : tokB k x y z = true) : tokB k x y (min 10 (z + 1)) = true := by
  have hn := (tok_num h).2.2
  unfold tokB backB at h ⊢
  rw [Bool.and_eq_true, Bool.and_eq_true] at h ⊢
  refine ⟨⟨h.1.1, ?_⟩, h.2⟩
  rw [decide_eq_true (by omega), decide_eq_true (by omega)]
  rfl
theorem wait_next9 {k : Bool} {x y z : Int} (h : tokB k x y z = true) (hz : z ≠ 10) : waitOf9 k x y (z + 1) = 2 * waitOf9 k x y z ∨ waitOf9 k x y (z + 1) = 60000000000 := by
  have hn := (tok_num h).2.2
  have h' := tok_next h
  rw [show min 10 (z + 1) = z + 1 by omega] at h'
  unfold waitOf9
  rw [if_pos h, if_pos h', show (z + 1).toNat = z.toNat + 1 by omega, dbl_succ]
  omega

/-! ### STEP 1: THE WALK: the Go text returns true, AND WRITES NOTHING THAT WAS THERE: 'Below w.heap.size w w'' (Derived/Below.lean: '.refl', '.alloc', '.drew', '.setCell' at a new block, '.trans'). Open each 'IsRow' by 'rcases' AHEAD of 'go_enter'; part every test ahead of the walk. -/
set_option maxHeartbeats 8000000 in
theorem walk (a0 : Option Addr) (len0 cap0 : Nat) (z0 : List Int) (w : World) (w0 : IsRow .u8 w a0 len0 cap0 z0) :
    Calls Try.prog 3 #[.slice a0 len0 cap0] w fun e w' => e = .returned (.bool true) ∧ Below w.heap.size w w' := by
  have row := row_of w0
  by_cases hs : len0 ≤ 4096
  · go_enter Try.func3, Try.ntmps3
    go_upto_region 4 with (first
      | (go_at_call 5; refine (drawWait_any cap0 hs row (Nat.le_refl _)).mono ?_; rintro e w1 ⟨k, x, y, z, rfl, hbw⟩; have zb := hbw.size)
      | go_in)
    cases ht : tokB k x y z
    · have HT : Hid (tokB k x y z = false) := ht
      have HW : Hid (waitOf9 k x y z = -1) := if_neg (by rw [ht]; decide)
      clear ht
      go_wp2_with (first
        | (go_at_call 6; refine (implWait_any k x y z _).mono ?_; rintro e w2 ⟨rfl, hb2⟩; rw [HW.out]; have hbw := below_two (w := w) (by go_grown) hb2; have hx := below_two (w := (w1.alloc (.cells #[.bool k, .int .i64 x, .int .i64 y, .int .i64 z] 25))) (by go_grown) hb2; have k0 : w2.cell? ⟨w1.heap.size, 0, none⟩ = some (.bool k) := (below_cells4 hx _ _ (by simp)).trans (by go_simp); have k1 : w2.cell? ⟨w1.heap.size, 1, none⟩ = some (.int .i64 x) := (below_cells4 hx _ _ (by simp)).trans (by go_simp); have k2 : w2.cell? ⟨w1.heap.size, 2, none⟩ = some (.int .i64 y) := (below_cells4 hx _ _ (by simp)).trans (by go_simp); have k3 : w2.cell? ⟨w1.heap.size, 3, none⟩ = some (.int .i64 z) := (below_cells4 hx _ _ (by simp)).trans (by go_simp); have zx := lt_of_x hx; have zb := hbw.size)
        | (go_at_call 7; refine (specWait_any k x y z _).mono ?_; rintro e w3 ⟨rfl, hb3⟩; rw [HW.out]; have hbw := below_two (w := w) (by go_grown) hb3; have hx := below_two (w := (w1.alloc (.cells #[.bool k, .int .i64 x, .int .i64 y, .int .i64 z] 25))) (by go_grown) hb3; have k0 : w3.cell? ⟨w1.heap.size, 0, none⟩ = some (.bool k) := (below_cells4 hx _ _ (by simp)).trans (by go_simp); have k1 : w3.cell? ⟨w1.heap.size, 1, none⟩ = some (.int .i64 x) := (below_cells4 hx _ _ (by simp)).trans (by go_simp); have k2 : w3.cell? ⟨w1.heap.size, 2, none⟩ = some (.int .i64 y) := (below_cells4 hx _ _ (by simp)).trans (by go_simp); have k3 : w3.cell? ⟨w1.heap.size, 3, none⟩ = some (.int .i64 z) := (below_cells4 hx _ _ (by simp)).trans (by go_simp); have zx := lt_of_x hx; have zb := hbw.size)
        | (go_at_call 8; refine (implTripOk_is HT.out _).mono ?_; rintro e w4 ⟨rfl, hb4⟩; have hbw := below_two (w := w) (by go_grown) hb4; have hx := below_two (w := (w1.alloc (.cells #[.bool k, .int .i64 x, .int .i64 y, .int .i64 z] 25))) (by go_grown) hb4; have k0 : w4.cell? ⟨w1.heap.size, 0, none⟩ = some (.bool k) := (below_cells4 hx _ _ (by simp)).trans (by go_simp); have k1 : w4.cell? ⟨w1.heap.size, 1, none⟩ = some (.int .i64 x) := (below_cells4 hx _ _ (by simp)).trans (by go_simp); have k2 : w4.cell? ⟨w1.heap.size, 2, none⟩ = some (.int .i64 y) := (below_cells4 hx _ _ (by simp)).trans (by go_simp); have k3 : w4.cell? ⟨w1.heap.size, 3, none⟩ = some (.int .i64 z) := (below_cells4 hx _ _ (by simp)).trans (by go_simp); have zx := lt_of_x hx; have zb := hbw.size))
      go_ret
      exact ⟨rfl, by go_grown⟩
    · obtain ⟨W, hW⟩ : ∃ W, waitOf9 k x y z = W := ⟨_, rfl⟩
      have hin := wait_in ht
      have hzn := (tok_num ht).2.2
      rw [hW] at hin
      have W0 := hin.1
      have W1 := hin.2
      have wn : decide (W < 0) = false := decide_eq_false (by omega)
      have HT : Hid (tokB k x y z = true) := ht
      have HW : Hid (waitOf9 k x y z = W) := hW
      by_cases hz : z = 10
      · subst hz
        have HEB : Hid ((10 : Int) = min 10 (10 + 1)) := by show (10 : Int) = min 10 (10 + 1); omega
        have HX : Hid (waitOf9 k x y 10 = W) := hW
        clear hin hW ht hzn
        go_wp2_with (first
        | (go_at_call 6; have g1 := kE; refine (implWait_any k x y 10 _).mono ?_; rintro e w5 ⟨rfl, hb5⟩; rw [HX.out]; have hbw := below_two (w := w) (by go_grown) hb5; have hx := below_two (w := (w1.alloc (.cells #[.bool k, .int .i64 x, .int .i64 y, .int .i64 10] 25))) (by go_grown) hb5; have k0 : w5.cell? ⟨w1.heap.size, 0, none⟩ = some (.bool k) := (below_cells4 hx _ _ (by simp)).trans (by go_simp); have k1 : w5.cell? ⟨w1.heap.size, 1, none⟩ = some (.int .i64 x) := (below_cells4 hx _ _ (by simp)).trans (by go_simp); have k2 : w5.cell? ⟨w1.heap.size, 2, none⟩ = some (.int .i64 y) := (below_cells4 hx _ _ (by simp)).trans (by go_simp); have k3 : w5.cell? ⟨w1.heap.size, 3, none⟩ = some (.int .i64 10) := (below_cells4 hx _ _ (by simp)).trans (by go_simp); have zx := lt_of_x hx; have zb := hbw.size; have hy := below_two (w := (w4.alloc (.cells #[.bool k, .int .i64 x, .int .i64 y, .int .i64 10] 25))) (by go_grown) hb5; have j0 : w5.cell? ⟨w4.heap.size, 0, none⟩ = some (.bool k) := (below_cells4 hy _ _ (by simp)).trans (by go_simp); have j1 : w5.cell? ⟨w4.heap.size, 1, none⟩ = some (.int .i64 x) := (below_cells4 hy _ _ (by simp)).trans (by go_simp); have j2 : w5.cell? ⟨w4.heap.size, 2, none⟩ = some (.int .i64 y) := (below_cells4 hy _ _ (by simp)).trans (by go_simp); have j3 : w5.cell? ⟨w4.heap.size, 3, none⟩ = some (.int .i64 (10)) := (below_cells4 hy _ _ (by simp)).trans (by go_simp); have zy := lt_of_x hy)
        | (go_at_call 6; refine (implWait_any k x y 10 _).mono ?_; rintro e w2 ⟨rfl, hb2⟩; rw [HW.out]; have hbw := below_two (w := w) (by go_grown) hb2; have hx := below_two (w := (w1.alloc (.cells #[.bool k, .int .i64 x, .int .i64 y, .int .i64 10] 25))) (by go_grown) hb2; have k0 : w2.cell? ⟨w1.heap.size, 0, none⟩ = some (.bool k) := (below_cells4 hx _ _ (by simp)).trans (by go_simp); have k1 : w2.cell? ⟨w1.heap.size, 1, none⟩ = some (.int .i64 x) := (below_cells4 hx _ _ (by simp)).trans (by go_simp); have k2 : w2.cell? ⟨w1.heap.size, 2, none⟩ = some (.int .i64 y) := (below_cells4 hx _ _ (by simp)).trans (by go_simp); have k3 : w2.cell? ⟨w1.heap.size, 3, none⟩ = some (.int .i64 10) := (below_cells4 hx _ _ (by simp)).trans (by go_simp); have zx := lt_of_x hx; have zb := hbw.size)
        | (go_at_call 7; refine (specWait_any k x y 10 _).mono ?_; rintro e w3 ⟨rfl, hb3⟩; rw [HW.out]; have hbw := below_two (w := w) (by go_grown) hb3; have hx := below_two (w := (w1.alloc (.cells #[.bool k, .int .i64 x, .int .i64 y, .int .i64 10] 25))) (by go_grown) hb3; have k0 : w3.cell? ⟨w1.heap.size, 0, none⟩ = some (.bool k) := (below_cells4 hx _ _ (by simp)).trans (by go_simp); have k1 : w3.cell? ⟨w1.heap.size, 1, none⟩ = some (.int .i64 x) := (below_cells4 hx _ _ (by simp)).trans (by go_simp); have k2 : w3.cell? ⟨w1.heap.size, 2, none⟩ = some (.int .i64 y) := (below_cells4 hx _ _ (by simp)).trans (by go_simp); have k3 : w3.cell? ⟨w1.heap.size, 3, none⟩ = some (.int .i64 10) := (below_cells4 hx _ _ (by simp)).trans (by go_simp); have zx := lt_of_x hx; have zb := hbw.size)
        | (go_at_call 9; refine (implExpire_yes k x y 10 10 _ HT.out HEB.out).mono ?_; rintro e w4 ⟨rfl, hb4⟩; have hbw := below_two (w := w) (by go_grown) hb4; have hx := below_two (w := (w1.alloc (.cells #[.bool k, .int .i64 x, .int .i64 y, .int .i64 10] 25))) (by go_grown) hb4; have k0 : w4.cell? ⟨w1.heap.size, 0, none⟩ = some (.bool k) := (below_cells4 hx _ _ (by simp)).trans (by go_simp); have k1 : w4.cell? ⟨w1.heap.size, 1, none⟩ = some (.int .i64 x) := (below_cells4 hx _ _ (by simp)).trans (by go_simp); have k2 : w4.cell? ⟨w1.heap.size, 2, none⟩ = some (.int .i64 y) := (below_cells4 hx _ _ (by simp)).trans (by go_simp); have k3 : w4.cell? ⟨w1.heap.size, 3, none⟩ = some (.int .i64 10) := (below_cells4 hx _ _ (by simp)).trans (by go_simp); have zx := lt_of_x hx; have zb := hbw.size; have kE := hb4))
        go_ret
        exact ⟨rfl, by go_grown⟩
      · have HEB : Hid (z + 1 = min 10 (z + 1)) := by show z + 1 = min 10 (z + 1); omega
        have hw2 : IntKind.i64.wrap (2 * W) = 2 * W := by simp only [IntKind.wrap_i64, wrap64]; omega
        have hz1 : IntKind.i64.wrap (z + 1) = z + 1 := by simp only [IntKind.wrap_i64, wrap64]; omega
        have hz' : (z == 10) = false := by rw [beq_eq_false_iff_ne]; exact hz
        rcases wait_next9 ht hz with hX | hX
        · rw [hW] at hX
          have HX : Hid (waitOf9 k x y (z + 1) = 2 * W) := hX
          clear hin hW ht hzn hX
          go_wp2_with (first
        | (go_at_call 6; have g1 := kE; refine (implWait_any k x y (z + 1) _).mono ?_; rintro e w5 ⟨rfl, hb5⟩; rw [HX.out]; have hbw := below_two (w := w) (by go_grown) hb5; have hx := below_two (w := (w1.alloc (.cells #[.bool k, .int .i64 x, .int .i64 y, .int .i64 z] 25))) (by go_grown) hb5; have k0 : w5.cell? ⟨w1.heap.size, 0, none⟩ = some (.bool k) := (below_cells4 hx _ _ (by simp)).trans (by go_simp); have k1 : w5.cell? ⟨w1.heap.size, 1, none⟩ = some (.int .i64 x) := (below_cells4 hx _ _ (by simp)).trans (by go_simp); have k2 : w5.cell? ⟨w1.heap.size, 2, none⟩ = some (.int .i64 y) := (below_cells4 hx _ _ (by simp)).trans (by go_simp); have k3 : w5.cell? ⟨w1.heap.size, 3, none⟩ = some (.int .i64 z) := (below_cells4 hx _ _ (by simp)).trans (by go_simp); have zx := lt_of_x hx; have zb := hbw.size; have hy := below_two (w := (w4.alloc (.cells #[.bool k, .int .i64 x, .int .i64 y, .int .i64 (z + 1)] 25))) (by go_grown) hb5; have j0 : w5.cell? ⟨w4.heap.size, 0, none⟩ = some (.bool k) := (below_cells4 hy _ _ (by simp)).trans (by go_simp); have j1 : w5.cell? ⟨w4.heap.size, 1, none⟩ = some (.int .i64 x) := (below_cells4 hy _ _ (by simp)).trans (by go_simp); have j2 : w5.cell? ⟨w4.heap.size, 2, none⟩ = some (.int .i64 y) := (below_cells4 hy _ _ (by simp)).trans (by go_simp); have j3 : w5.cell? ⟨w4.heap.size, 3, none⟩ = some (.int .i64 ((z + 1))) := (below_cells4 hy _ _ (by simp)).trans (by go_simp); have zy := lt_of_x hy)
        | (go_at_call 6; refine (implWait_any k x y z _).mono ?_; rintro e w2 ⟨rfl, hb2⟩; rw [HW.out]; have hbw := below_two (w := w) (by go_grown) hb2; have hx := below_two (w := (w1.alloc (.cells #[.bool k, .int .i64 x, .int .i64 y, .int .i64 z] 25))) (by go_grown) hb2; have k0 : w2.cell? ⟨w1.heap.size, 0, none⟩ = some (.bool k) := (below_cells4 hx _ _ (by simp)).trans (by go_simp); have k1 : w2.cell? ⟨w1.heap.size, 1, none⟩ = some (.int .i64 x) := (below_cells4 hx _ _ (by simp)).trans (by go_simp); have k2 : w2.cell? ⟨w1.heap.size, 2, none⟩ = some (.int .i64 y) := (below_cells4 hx _ _ (by simp)).trans (by go_simp); have k3 : w2.cell? ⟨w1.heap.size, 3, none⟩ = some (.int .i64 z) := (below_cells4 hx _ _ (by simp)).trans (by go_simp); have zx := lt_of_x hx; have zb := hbw.size)
        | (go_at_call 7; refine (specWait_any k x y z _).mono ?_; rintro e w3 ⟨rfl, hb3⟩; rw [HW.out]; have hbw := below_two (w := w) (by go_grown) hb3; have hx := below_two (w := (w1.alloc (.cells #[.bool k, .int .i64 x, .int .i64 y, .int .i64 z] 25))) (by go_grown) hb3; have k0 : w3.cell? ⟨w1.heap.size, 0, none⟩ = some (.bool k) := (below_cells4 hx _ _ (by simp)).trans (by go_simp); have k1 : w3.cell? ⟨w1.heap.size, 1, none⟩ = some (.int .i64 x) := (below_cells4 hx _ _ (by simp)).trans (by go_simp); have k2 : w3.cell? ⟨w1.heap.size, 2, none⟩ = some (.int .i64 y) := (below_cells4 hx _ _ (by simp)).trans (by go_simp); have k3 : w3.cell? ⟨w1.heap.size, 3, none⟩ = some (.int .i64 z) := (below_cells4 hx _ _ (by simp)).trans (by go_simp); have zx := lt_of_x hx; have zb := hbw.size)
        | (go_at_call 9; refine (implExpire_yes k x y z (z + 1) _ HT.out HEB.out).mono ?_; rintro e w4 ⟨rfl, hb4⟩; have hbw := below_two (w := w) (by go_grown) hb4; have hx := below_two (w := (w1.alloc (.cells #[.bool k, .int .i64 x, .int .i64 y, .int .i64 z] 25))) (by go_grown) hb4; have k0 : w4.cell? ⟨w1.heap.size, 0, none⟩ = some (.bool k) := (below_cells4 hx _ _ (by simp)).trans (by go_simp); have k1 : w4.cell? ⟨w1.heap.size, 1, none⟩ = some (.int .i64 x) := (below_cells4 hx _ _ (by simp)).trans (by go_simp); have k2 : w4.cell? ⟨w1.heap.size, 2, none⟩ = some (.int .i64 y) := (below_cells4 hx _ _ (by simp)).trans (by go_simp); have k3 : w4.cell? ⟨w1.heap.size, 3, none⟩ = some (.int .i64 z) := (below_cells4 hx _ _ (by simp)).trans (by go_simp); have zx := lt_of_x hx; have zb := hbw.size; have kE := hb4))
          go_ret
          exact ⟨rfl, by go_grown⟩
        · have HX : Hid (waitOf9 k x y (z + 1) = 60000000000) := hX
          clear hin hW ht hzn hX
          by_cases h2 : (60000000000 : Int) = 2 * W
          · obtain rfl : W = 30000000000 := by omega
            go_wp2_with (first
        | (go_at_call 6; have g1 := kE; refine (implWait_any k x y (z + 1) _).mono ?_; rintro e w5 ⟨rfl, hb5⟩; rw [HX.out]; have hbw := below_two (w := w) (by go_grown) hb5; have hx := below_two (w := (w1.alloc (.cells #[.bool k, .int .i64 x, .int .i64 y, .int .i64 z] 25))) (by go_grown) hb5; have k0 : w5.cell? ⟨w1.heap.size, 0, none⟩ = some (.bool k) := (below_cells4 hx _ _ (by simp)).trans (by go_simp); have k1 : w5.cell? ⟨w1.heap.size, 1, none⟩ = some (.int .i64 x) := (below_cells4 hx _ _ (by simp)).trans (by go_simp); have k2 : w5.cell? ⟨w1.heap.size, 2, none⟩ = some (.int .i64 y) := (below_cells4 hx _ _ (by simp)).trans (by go_simp); have k3 : w5.cell? ⟨w1.heap.size, 3, none⟩ = some (.int .i64 z) := (below_cells4 hx _ _ (by simp)).trans (by go_simp); have zx := lt_of_x hx; have zb := hbw.size; have hy := below_two (w := (w4.alloc (.cells #[.bool k, .int .i64 x, .int .i64 y, .int .i64 (z + 1)] 25))) (by go_grown) hb5; have j0 : w5.cell? ⟨w4.heap.size, 0, none⟩ = some (.bool k) := (below_cells4 hy _ _ (by simp)).trans (by go_simp); have j1 : w5.cell? ⟨w4.heap.size, 1, none⟩ = some (.int .i64 x) := (below_cells4 hy _ _ (by simp)).trans (by go_simp); have j2 : w5.cell? ⟨w4.heap.size, 2, none⟩ = some (.int .i64 y) := (below_cells4 hy _ _ (by simp)).trans (by go_simp); have j3 : w5.cell? ⟨w4.heap.size, 3, none⟩ = some (.int .i64 ((z + 1))) := (below_cells4 hy _ _ (by simp)).trans (by go_simp); have zy := lt_of_x hy)
        | (go_at_call 6; refine (implWait_any k x y z _).mono ?_; rintro e w2 ⟨rfl, hb2⟩; rw [HW.out]; have hbw := below_two (w := w) (by go_grown) hb2; have hx := below_two (w := (w1.alloc (.cells #[.bool k, .int .i64 x, .int .i64 y, .int .i64 z] 25))) (by go_grown) hb2; have k0 : w2.cell? ⟨w1.heap.size, 0, none⟩ = some (.bool k) := (below_cells4 hx _ _ (by simp)).trans (by go_simp); have k1 : w2.cell? ⟨w1.heap.size, 1, none⟩ = some (.int .i64 x) := (below_cells4 hx _ _ (by simp)).trans (by go_simp); have k2 : w2.cell? ⟨w1.heap.size, 2, none⟩ = some (.int .i64 y) := (below_cells4 hx _ _ (by simp)).trans (by go_simp); have k3 : w2.cell? ⟨w1.heap.size, 3, none⟩ = some (.int .i64 z) := (below_cells4 hx _ _ (by simp)).trans (by go_simp); have zx := lt_of_x hx; have zb := hbw.size)
        | (go_at_call 7; refine (specWait_any k x y z _).mono ?_; rintro e w3 ⟨rfl, hb3⟩; rw [HW.out]; have hbw := below_two (w := w) (by go_grown) hb3; have hx := below_two (w := (w1.alloc (.cells #[.bool k, .int .i64 x, .int .i64 y, .int .i64 z] 25))) (by go_grown) hb3; have k0 : w3.cell? ⟨w1.heap.size, 0, none⟩ = some (.bool k) := (below_cells4 hx _ _ (by simp)).trans (by go_simp); have k1 : w3.cell? ⟨w1.heap.size, 1, none⟩ = some (.int .i64 x) := (below_cells4 hx _ _ (by simp)).trans (by go_simp); have k2 : w3.cell? ⟨w1.heap.size, 2, none⟩ = some (.int .i64 y) := (below_cells4 hx _ _ (by simp)).trans (by go_simp); have k3 : w3.cell? ⟨w1.heap.size, 3, none⟩ = some (.int .i64 z) := (below_cells4 hx _ _ (by simp)).trans (by go_simp); have zx := lt_of_x hx; have zb := hbw.size)
        | (go_at_call 9; refine (implExpire_yes k x y z (z + 1) _ HT.out HEB.out).mono ?_; rintro e w4 ⟨rfl, hb4⟩; have hbw := below_two (w := w) (by go_grown) hb4; have hx := below_two (w := (w1.alloc (.cells #[.bool k, .int .i64 x, .int .i64 y, .int .i64 z] 25))) (by go_grown) hb4; have k0 : w4.cell? ⟨w1.heap.size, 0, none⟩ = some (.bool k) := (below_cells4 hx _ _ (by simp)).trans (by go_simp); have k1 : w4.cell? ⟨w1.heap.size, 1, none⟩ = some (.int .i64 x) := (below_cells4 hx _ _ (by simp)).trans (by go_simp); have k2 : w4.cell? ⟨w1.heap.size, 2, none⟩ = some (.int .i64 y) := (below_cells4 hx _ _ (by simp)).trans (by go_simp); have k3 : w4.cell? ⟨w1.heap.size, 3, none⟩ = some (.int .i64 z) := (below_cells4 hx _ _ (by simp)).trans (by go_simp); have zx := lt_of_x hx; have zb := hbw.size; have kE := hb4))
            go_ret
            exact ⟨rfl, by go_grown⟩
          · have h2' : ((60000000000 : Int) == 2 * W) = false := by rw [beq_eq_false_iff_ne]; exact h2
            go_wp2_with (first
        | (go_at_call 6; have g1 := kE; refine (implWait_any k x y (z + 1) _).mono ?_; rintro e w5 ⟨rfl, hb5⟩; rw [HX.out]; have hbw := below_two (w := w) (by go_grown) hb5; have hx := below_two (w := (w1.alloc (.cells #[.bool k, .int .i64 x, .int .i64 y, .int .i64 z] 25))) (by go_grown) hb5; have k0 : w5.cell? ⟨w1.heap.size, 0, none⟩ = some (.bool k) := (below_cells4 hx _ _ (by simp)).trans (by go_simp); have k1 : w5.cell? ⟨w1.heap.size, 1, none⟩ = some (.int .i64 x) := (below_cells4 hx _ _ (by simp)).trans (by go_simp); have k2 : w5.cell? ⟨w1.heap.size, 2, none⟩ = some (.int .i64 y) := (below_cells4 hx _ _ (by simp)).trans (by go_simp); have k3 : w5.cell? ⟨w1.heap.size, 3, none⟩ = some (.int .i64 z) := (below_cells4 hx _ _ (by simp)).trans (by go_simp); have zx := lt_of_x hx; have zb := hbw.size; have hy := below_two (w := (w4.alloc (.cells #[.bool k, .int .i64 x, .int .i64 y, .int .i64 (z + 1)] 25))) (by go_grown) hb5; have j0 : w5.cell? ⟨w4.heap.size, 0, none⟩ = some (.bool k) := (below_cells4 hy _ _ (by simp)).trans (by go_simp); have j1 : w5.cell? ⟨w4.heap.size, 1, none⟩ = some (.int .i64 x) := (below_cells4 hy _ _ (by simp)).trans (by go_simp); have j2 : w5.cell? ⟨w4.heap.size, 2, none⟩ = some (.int .i64 y) := (below_cells4 hy _ _ (by simp)).trans (by go_simp); have j3 : w5.cell? ⟨w4.heap.size, 3, none⟩ = some (.int .i64 ((z + 1))) := (below_cells4 hy _ _ (by simp)).trans (by go_simp); have zy := lt_of_x hy)
        | (go_at_call 6; refine (implWait_any k x y z _).mono ?_; rintro e w2 ⟨rfl, hb2⟩; rw [HW.out]; have hbw := below_two (w := w) (by go_grown) hb2; have hx := below_two (w := (w1.alloc (.cells #[.bool k, .int .i64 x, .int .i64 y, .int .i64 z] 25))) (by go_grown) hb2; have k0 : w2.cell? ⟨w1.heap.size, 0, none⟩ = some (.bool k) := (below_cells4 hx _ _ (by simp)).trans (by go_simp); have k1 : w2.cell? ⟨w1.heap.size, 1, none⟩ = some (.int .i64 x) := (below_cells4 hx _ _ (by simp)).trans (by go_simp); have k2 : w2.cell? ⟨w1.heap.size, 2, none⟩ = some (.int .i64 y) := (below_cells4 hx _ _ (by simp)).trans (by go_simp); have k3 : w2.cell? ⟨w1.heap.size, 3, none⟩ = some (.int .i64 z) := (below_cells4 hx _ _ (by simp)).trans (by go_simp); have zx := lt_of_x hx; have zb := hbw.size)
        | (go_at_call 7; refine (specWait_any k x y z _).mono ?_; rintro e w3 ⟨rfl, hb3⟩; rw [HW.out]; have hbw := below_two (w := w) (by go_grown) hb3; have hx := below_two (w := (w1.alloc (.cells #[.bool k, .int .i64 x, .int .i64 y, .int .i64 z] 25))) (by go_grown) hb3; have k0 : w3.cell? ⟨w1.heap.size, 0, none⟩ = some (.bool k) := (below_cells4 hx _ _ (by simp)).trans (by go_simp); have k1 : w3.cell? ⟨w1.heap.size, 1, none⟩ = some (.int .i64 x) := (below_cells4 hx _ _ (by simp)).trans (by go_simp); have k2 : w3.cell? ⟨w1.heap.size, 2, none⟩ = some (.int .i64 y) := (below_cells4 hx _ _ (by simp)).trans (by go_simp); have k3 : w3.cell? ⟨w1.heap.size, 3, none⟩ = some (.int .i64 z) := (below_cells4 hx _ _ (by simp)).trans (by go_simp); have zx := lt_of_x hx; have zb := hbw.size)
        | (go_at_call 9; refine (implExpire_yes k x y z (z + 1) _ HT.out HEB.out).mono ?_; rintro e w4 ⟨rfl, hb4⟩; have hbw := below_two (w := w) (by go_grown) hb4; have hx := below_two (w := (w1.alloc (.cells #[.bool k, .int .i64 x, .int .i64 y, .int .i64 z] 25))) (by go_grown) hb4; have k0 : w4.cell? ⟨w1.heap.size, 0, none⟩ = some (.bool k) := (below_cells4 hx _ _ (by simp)).trans (by go_simp); have k1 : w4.cell? ⟨w1.heap.size, 1, none⟩ = some (.int .i64 x) := (below_cells4 hx _ _ (by simp)).trans (by go_simp); have k2 : w4.cell? ⟨w1.heap.size, 2, none⟩ = some (.int .i64 y) := (below_cells4 hx _ _ (by simp)).trans (by go_simp); have k3 : w4.cell? ⟨w1.heap.size, 3, none⟩ = some (.int .i64 z) := (below_cells4 hx _ _ (by simp)).trans (by go_simp); have zx := lt_of_x hx; have zb := hbw.size; have kE := hb4))
            go_ret
            exact ⟨rfl, by go_grown⟩
  · have hbig : (4096 : Int) < (len0 : Int) := by omega
    go_enter Try.func3, Try.ntmps3
    go_wp2
    go_ret
    exact ⟨rfl, Below.refl _ _⟩

/-! ### THE ROW's STEP: WRITTEN OUT: LEAVE IT -/
set_option maxRecDepth 100000 in
theorem lifted (os : Os) (started : os.Started) (H : Type) (enc : TypeId × Value → H) :
    ReturnsInHanded {} Try.checked os 3 .any (Rows.fnWaitsSpec.pre6 enc Try.prog Try.f3 Rows.fnWaitsRow.domain false) (Rows.fnWaitsSpec.post enc Try.prog Try.f3 false true false false) := by
  refine returnsInHanded_of_change (C := Try.checked) own started (by kernel_rfl) Try.func3
    (ChangeSpec.witness6 (enc := enc) (C := Try.checked) false ⟨#[], #[.slice none 0 0], []⟩ 8 (by kernel_rfl) (by kernel_rfl) (by kernel_rfl) (by kernel_rfl)) ?_
  intro W base args ds gs before hval0 hW hcnd _
  have hval : ∀ (j : Nat) t v, Try.f3.params[j]? = some t → args[j]? = some v → Value.okWide Try.prog W .any base t v := hval0
  have hW' := hW
  obtain ⟨p, q, hA0, hV, rfl, hfz, hnd⟩ := hW
  have hA : DataW.TrodAll enc Try.prog W 0 (fun _ => true) true Try.f3.params.toList args.toList ds p := hA0
  rw [Try.params3] at hA hval
  obtain ⟨v0, vs0, d0, ds0, p0, q0, hargs, rfl, rfl, h0, r0⟩ := trodAll_cons hA
  obtain ⟨rfl, rfl, rfl⟩ := trodAll_nil r0
  obtain rfl : args = #[v0] := by cases args; simp_all
  obtain ⟨rfl, rfl⟩ := trodVars_none hV
  obtain ⟨a0, len0, cap0, rfl⟩ := okWide_slice Try.underlying22 (hval 0 22 v0 rfl rfl)
  have k0 := h0
  have lt0 : ∀ x ∈ p0, x.block < W.heap.size := by obtain ⟨m, hm⟩ := k0; exact DataW.trod_lt m _ _ _ hm
  obtain ⟨z0, w0⟩ : ∃ zs, IsRow .u8 W a0 len0 cap0 zs := by
    obtain ⟨fuel, hf⟩ := h0
    rcases open_ints Try.underlying22 Try.underlying5 (by kernel_rfl) hf with ⟨hcs, _⟩ | ⟨x, l, c, zs, hcs, _, hl, hm, hz, _, hcell, hwz⟩
    · simp [Value.cells] at hcs
      obtain ⟨rfl, rfl, rfl⟩ := hcs
      exact ⟨[], .inl ⟨rfl, rfl, rfl, rfl⟩⟩
    · simp [Value.cells] at hcs
      obtain ⟨rfl, rfl, rfl⟩ := hcs
      exact ⟨zs, .inr ⟨_, rfl, hl, hm, by simpa using hz, hcell, hwz⟩⟩
  clear hA0 hval0
  refine (walk a0 len0 cap0 z0 W w0).mono fun e W' ⟨he, bel⟩ => ?_
  subst he
  exact ⟨_, rfl, _, _, _, [], _, [], hW', trodAll_mk1 (shut_bool Try.underlying4 _), (trodAll_cons_mk (Below.trod laidOut (by kernel_rfl) (of_decide_eq_true (by kernel_rfl)) k0 bel lt0) trodAll_mk0), rfl, bel.frame _, fun h => by cases h⟩

theorem over : Rows.fnWaitsRow.holds Try.pinned (OpenSpec.ofChange Rows.fnWaitsSpec) :=
  OpenClaim.holds_of_wide 3 Try.f3 rfl rfl rfl rfl rfl rfl rfl ⟨rfl, rfl, rfl, rfl, rfl⟩ rfl rfl rfl rfl rfl (by kernel_rfl) Try.func3 (by kernel_rfl)
    (of_decide_eq_true (by kernel_rfl)) (by unfold Func.isWrapper; first | (rw [if_pos (by decide +kernel)]; kernel_rfl) | (rw [if_neg (by decide +kernel)]; exact ⟨rfl, rfl⟩))
    (fun os started H enc _ => lifted os started H enc)

/-- ████ THE STATEMENT ████ -/
theorem proved : Rows.FnWaitsSaid := over
#print axioms proved
end Go.Proofs.Ytohenfogiegkmae.fnWaits
namespace Go.Proofs.Ytohenfogiegkmae
theorem fnWaits_holds : Rows.FnWaitsSaid := fnWaits.proved
#print axioms fnWaits_holds
end Go.Proofs.Ytohenfogiegkmae
