/- Proved: whatever the bytes, the law FnWhen returns true (at the bucket and the size that the model draws of them impl.When answers as spec's does; at that time impl.Take says true, and a nanosecond ahead of it not), and the bytes read as before; no condition. -/
import Derived.Test.YteefeookjmpecabRows
import Derived.WalkKit
import Derived.ProofKit
import Derived.OpenShut
import Derived.ShutString
import Derived.ChangeOld
import Derived.Below
import Derived.Test.YteefeookjmpecabDraw4c
import Derived.Test.YteefeookjmpecabImplBuck
namespace Go.Proofs.Yteefeookjmpecab.fnWhen
open Go.ChangeShapes Go.WideShapes Go.ChangeAt Go.RowKit
open Go.ChangeMaps (open_string shut_string)
set_option linter.unusedVariables false

theorem own : ownKnob Try.prog.godebug = none := by kernel_rfl
theorem laidOut : laidOutB Try.prog = true := by kernel_rfl

/-- WHAT THE WALK IS TOLD OF A SLICE OF INTEGERS THAT CAME IN: it is nil; or it leads to a row of 'cap' cells, the numbers 'zs' (the first 'len' are its elements, the rest its spare room), each fitting its kind. -/
def IsRow (k : IntKind) (w : World) (a : Option Addr) (len cap : Nat) (zs : List Int) : Prop :=
  (a = none ∧ len = 0 ∧ cap = 0 ∧ zs = []) ∨
  ∃ x, a = some x ∧ len ≤ cap ∧ cap ≤ maxLen ∧ zs.length = cap ∧ (∀ i, i < zs.length → w.cell? (x.add i) = some (.int k (zs.getD i 0))) ∧ ∀ n ∈ zs, (Lit.int k n).wf = true

set_option linter.unusedSimpArgs false
theorem lt_of_x {w w' : World} {A : Obj} (h : Below (w.alloc A).heap.size (w.alloc A) w') : w.heap.size < w'.heap.size := by
  have := h.size
  simp at this
  omega
theorem row_of {w : World} {a : Option Addr} {len cap : Nat} {zs : List Int} (h : IsRow .u8 w a len cap zs) : Row w.heap.size a len w := by
  intro i hi
  rcases h with ⟨rfl, rfl, rfl, rfl⟩ | ⟨x, rfl, hl, hm, hz, hcell, hwz⟩
  · omega
  · obtain ⟨b, off, spot⟩ := x
    have hspot : spot = none := by simpa [Addr.add] using World.cell?_spot (hcell 0 (by omega))
    subst hspot
    have hc := hcell i (by omega)
    have hc' : w.cell? ⟨b, off + i, none⟩ = some (.int .u8 (zs.getD i 0)) := by
      by_cases h0 : i = 0
      · subst h0; simpa [Addr.add] using hc
      · simpa [Addr.add, h0] using hc
    have hlt : i < zs.length := by omega
    have hm : zs.getD i 0 ∈ zs := by simp [List.getD, List.getElem?_eq_getElem hlt]
    obtain ⟨z0, z1⟩ := bounds_u8 (hwz _ hm)
    exact ⟨b, off, zs.getD i 0, rfl, World.block_lt_of_cell? w _ hc', hc', z0, z1⟩
theorem ceil_bounds {m r : Int} (hm : 0 < m) (hr : 0 < r) : 1 ≤ (m + r - 1) / r ∧ m ≤ r * ((m + r - 1) / r) ∧ r * ((m + r - 1) / r - 1) < m := by
  have h1 := Int.emod_nonneg (m + r - 1) (show r ≠ 0 by omega)
  have h2 := Int.emod_lt_of_pos (m + r - 1) hr
  have h3 := Int.mul_ediv_add_emod (m + r - 1) r
  have h4 : 1 ≤ (m + r - 1) / r := by
    rw [Int.le_ediv_iff_mul_le hr]
    omega
  generalize (m + r - 1) / r = Q at *
  generalize (m + r - 1) % r = R at *
  have h5 : r * (Q - 1) = r * Q - r := by rw [Int.mul_sub, Int.mul_one]
  refine ⟨h4, by omega, by omega⟩
/-- The time that is told: none, never, at once, or the first at which the bytes are there. -/
theorem when_cases (r u l t n : Int) : whenOf r u l t n = -1 ∨ whenOf r u l t n = 1000000000000000 ∨
    (whenOf r u l t n = t ∧ (0 ≤ t ∧ t < 1000000000000000) ∧ takeF r u l t (whenOf r u l t n) n = true) ∨
    (∃ T, whenOf r u l t n = T ∧ (0 ≤ t ∧ t < T ∧ T < 1000000000000000) ∧ takeF r u l t T n = true ∧ takeF r u l t (T - 1) n = false) := by
  cases hk : whenOk r u l t n
  · exact .inl (when_no hk)
  · have hk' := hk
    unfold whenOk at hk'
    rw [Bool.and_eq_true] at hk'
    obtain ⟨h1, h3⟩ := hk'
    obtain ⟨nr, nu, nl, nt⟩ := bok_num h1
    have n3 := seg_num h3
    have ok : ∀ T : Int, 0 ≤ T → T ≤ 1000000000000000 → takeF r u l t T n = decide (1000000000 * n ≤ fillL r u l t T) := by
      intro T a b
      have : timeB T = true := by unfold timeB; rw [decide_eq_true a, decide_eq_true b]; rfl
      unfold takeF takeOk
      rw [h1, this, h3]
      rfl
    have hw : whenOf r u l t n = (if 1000000000 * n - l ≤ 0 then t else if u < n ∨ r = 0 then 1000000000000000 else min 1000000000000000 (t + (1000000000 * n - l + r - 1) / r)) := by unfold whenOf; rw [hk]; rfl
    by_cases hm : 1000000000 * n - l ≤ 0
    · rw [if_pos hm] at hw
      rw [hw]
      by_cases hmax : t = 1000000000000000
      · exact .inr (.inl hmax)
      · refine .inr (.inr (.inl ⟨rfl, ⟨nt.1, by omega⟩, ?_⟩))
        rw [ok t nt.1 nt.2]
        refine decide_eq_true ?_
        unfold fillL
        rw [if_pos (Int.le_refl _)]
        omega
    · rw [if_neg hm] at hw
      by_cases hur : u < n ∨ r = 0
      · rw [if_pos hur] at hw
        exact .inr (.inl hw)
      · rw [if_neg hur] at hw
        obtain ⟨c1, c2, c3⟩ := ceil_bounds (m := 1000000000 * n - l) (r := r) (by omega) (by omega)
        generalize (1000000000 * n - l + r - 1) / r = Q at *
        by_cases hmax : 1000000000000000 ≤ t + Q
        · rw [Int.min_eq_left hmax] at hw
          exact .inr (.inl hw)
        · rw [Int.min_eq_right (by omega)] at hw
          refine .inr (.inr (.inr ⟨t + Q, hw, ⟨nt.1, by omega, by omega⟩, ?_, ?_⟩))
          · rw [ok _ (by omega) (by omega)]
            refine decide_eq_true ?_
            unfold fillL
            rw [if_neg (by omega), show t + Q - t = Q by omega, Int.le_min]
            omega
          · rw [ok _ (by omega) (by omega)]
            refine decide_eq_false ?_
            unfold fillL
            by_cases hq : t + Q - 1 ≤ t
            · rw [if_pos hq]; omega
            · rw [if_neg hq, show t + Q - 1 - t = Q - 1 by omega, Int.le_min]
              omega

/-! ### STEP 1: THE WALK: the Go text returns true, AND WRITES NOTHING THAT WAS THERE: 'Below w.heap.size w w'' (Derived/Below.lean: '.refl', '.alloc', '.drew', '.setCell' at a new block, '.trans'). Open each 'IsRow' by 'rcases' AHEAD of 'go_enter'; part every test ahead of the walk. -/
set_option maxHeartbeats 8000000 in
theorem walk (a0 : Option Addr) (len0 cap0 : Nat) (z0 : List Int) (w : World) (w0 : IsRow .u8 w a0 len0 cap0 z0) :
    Calls Try.prog 8 #[.slice a0 len0 cap0] w fun e w' => e = .returned (.bool true) ∧ Below w.heap.size w w' := by
  have row := row_of w0
  by_cases hs : len0 ≤ 4096
  · go_enter Try.func8, Try.ntmps8
    go_upto_region 4 with (first
      | (go_at_call 34; refine (drawWhen_any cap0 hs row (Nat.le_refl _)).mono ?_; rintro e w1 ⟨r, u, l, t, n, rfl, hbw⟩; have zb := hbw.size)
      | go_in)
    rcases when_cases r u l t n with hT | hT | ⟨hT, hr, ht⟩ | ⟨T, hT, hr, h1, h2⟩
    · have HT : Hid (whenOf r u l t n = -1) := hT
      clear hT
      go_wp2_with (first
        | (go_at_call 35; refine (implWhen_any r u l t n _).mono ?_; rintro e w2 ⟨rfl, hb2⟩; rw [HT.out]; have hbw := below_two (w := w) (by go_grown) hb2; have hx := below_two (w := (w1.alloc (.cells #[.int .i64 r, .int .i64 u, .int .i64 l, .int .i64 t] 49))) (by go_grown) hb2; have k0 : w2.cell? ⟨w1.heap.size, 0, none⟩ = some (.int .i64 r) := (below_cells4 hx _ _ (by simp)).trans (by go_simp); have k1 : w2.cell? ⟨w1.heap.size, 1, none⟩ = some (.int .i64 u) := (below_cells4 hx _ _ (by simp)).trans (by go_simp); have k2 : w2.cell? ⟨w1.heap.size, 2, none⟩ = some (.int .i64 l) := (below_cells4 hx _ _ (by simp)).trans (by go_simp); have k3 : w2.cell? ⟨w1.heap.size, 3, none⟩ = some (.int .i64 t) := (below_cells4 hx _ _ (by simp)).trans (by go_simp); have zx := lt_of_x hx; have zb := hbw.size)
        | (go_at_call 36; refine (specWhen_any r u l t n _).mono ?_; rintro e w3 ⟨rfl, hb3⟩; rw [HT.out]; have hbw := below_two (w := w) (by go_grown) hb3; have hx := below_two (w := (w1.alloc (.cells #[.int .i64 r, .int .i64 u, .int .i64 l, .int .i64 t] 49))) (by go_grown) hb3; have k0 : w3.cell? ⟨w1.heap.size, 0, none⟩ = some (.int .i64 r) := (below_cells4 hx _ _ (by simp)).trans (by go_simp); have k1 : w3.cell? ⟨w1.heap.size, 1, none⟩ = some (.int .i64 u) := (below_cells4 hx _ _ (by simp)).trans (by go_simp); have k2 : w3.cell? ⟨w1.heap.size, 2, none⟩ = some (.int .i64 l) := (below_cells4 hx _ _ (by simp)).trans (by go_simp); have k3 : w3.cell? ⟨w1.heap.size, 3, none⟩ = some (.int .i64 t) := (below_cells4 hx _ _ (by simp)).trans (by go_simp); have zx := lt_of_x hx; have zb := hbw.size))
      go_ret
      exact ⟨rfl, by go_grown⟩
    · have HT : Hid (whenOf r u l t n = 1000000000000000) := hT
      clear hT
      go_wp2_with (first
        | (go_at_call 35; refine (implWhen_any r u l t n _).mono ?_; rintro e w2 ⟨rfl, hb2⟩; rw [HT.out]; have hbw := below_two (w := w) (by go_grown) hb2; have hx := below_two (w := (w1.alloc (.cells #[.int .i64 r, .int .i64 u, .int .i64 l, .int .i64 t] 49))) (by go_grown) hb2; have k0 : w2.cell? ⟨w1.heap.size, 0, none⟩ = some (.int .i64 r) := (below_cells4 hx _ _ (by simp)).trans (by go_simp); have k1 : w2.cell? ⟨w1.heap.size, 1, none⟩ = some (.int .i64 u) := (below_cells4 hx _ _ (by simp)).trans (by go_simp); have k2 : w2.cell? ⟨w1.heap.size, 2, none⟩ = some (.int .i64 l) := (below_cells4 hx _ _ (by simp)).trans (by go_simp); have k3 : w2.cell? ⟨w1.heap.size, 3, none⟩ = some (.int .i64 t) := (below_cells4 hx _ _ (by simp)).trans (by go_simp); have zx := lt_of_x hx; have zb := hbw.size)
        | (go_at_call 36; refine (specWhen_any r u l t n _).mono ?_; rintro e w3 ⟨rfl, hb3⟩; rw [HT.out]; have hbw := below_two (w := w) (by go_grown) hb3; have hx := below_two (w := (w1.alloc (.cells #[.int .i64 r, .int .i64 u, .int .i64 l, .int .i64 t] 49))) (by go_grown) hb3; have k0 : w3.cell? ⟨w1.heap.size, 0, none⟩ = some (.int .i64 r) := (below_cells4 hx _ _ (by simp)).trans (by go_simp); have k1 : w3.cell? ⟨w1.heap.size, 1, none⟩ = some (.int .i64 u) := (below_cells4 hx _ _ (by simp)).trans (by go_simp); have k2 : w3.cell? ⟨w1.heap.size, 2, none⟩ = some (.int .i64 l) := (below_cells4 hx _ _ (by simp)).trans (by go_simp); have k3 : w3.cell? ⟨w1.heap.size, 3, none⟩ = some (.int .i64 t) := (below_cells4 hx _ _ (by simp)).trans (by go_simp); have zx := lt_of_x hx; have zb := hbw.size))
      go_ret
      exact ⟨rfl, by go_grown⟩
    · rw [hT] at ht
      have HT : Hid (whenOf r u l t n = t) := hT
      have H1 : Hid (takeF r u l t t n = true) := ht
      have e0 : decide (t < 0) = false := decide_eq_false (by omega)
      have e1 : (t == 1000000000000000) = false := by simp; omega
      clear hT ht
      go_wp2_with (first
        | (go_at_call 35; refine (implWhen_any r u l t n _).mono ?_; rintro e w2 ⟨rfl, hb2⟩; rw [HT.out]; have hbw := below_two (w := w) (by go_grown) hb2; have hx := below_two (w := (w1.alloc (.cells #[.int .i64 r, .int .i64 u, .int .i64 l, .int .i64 t] 49))) (by go_grown) hb2; have k0 : w2.cell? ⟨w1.heap.size, 0, none⟩ = some (.int .i64 r) := (below_cells4 hx _ _ (by simp)).trans (by go_simp); have k1 : w2.cell? ⟨w1.heap.size, 1, none⟩ = some (.int .i64 u) := (below_cells4 hx _ _ (by simp)).trans (by go_simp); have k2 : w2.cell? ⟨w1.heap.size, 2, none⟩ = some (.int .i64 l) := (below_cells4 hx _ _ (by simp)).trans (by go_simp); have k3 : w2.cell? ⟨w1.heap.size, 3, none⟩ = some (.int .i64 t) := (below_cells4 hx _ _ (by simp)).trans (by go_simp); have zx := lt_of_x hx; have zb := hbw.size)
        | (go_at_call 36; refine (specWhen_any r u l t n _).mono ?_; rintro e w3 ⟨rfl, hb3⟩; rw [HT.out]; have hbw := below_two (w := w) (by go_grown) hb3; have hx := below_two (w := (w1.alloc (.cells #[.int .i64 r, .int .i64 u, .int .i64 l, .int .i64 t] 49))) (by go_grown) hb3; have k0 : w3.cell? ⟨w1.heap.size, 0, none⟩ = some (.int .i64 r) := (below_cells4 hx _ _ (by simp)).trans (by go_simp); have k1 : w3.cell? ⟨w1.heap.size, 1, none⟩ = some (.int .i64 u) := (below_cells4 hx _ _ (by simp)).trans (by go_simp); have k2 : w3.cell? ⟨w1.heap.size, 2, none⟩ = some (.int .i64 l) := (below_cells4 hx _ _ (by simp)).trans (by go_simp); have k3 : w3.cell? ⟨w1.heap.size, 3, none⟩ = some (.int .i64 t) := (below_cells4 hx _ _ (by simp)).trans (by go_simp); have zx := lt_of_x hx; have zb := hbw.size)
        | (go_at_call 29; refine (implTake_any r u l t _ n _).mono ?_; rintro e w4 ⟨rfl, hb4⟩; rw [H1.out]; have hbw := below_two (w := w) (by go_grown) hb4; have hx := below_two (w := (w1.alloc (.cells #[.int .i64 r, .int .i64 u, .int .i64 l, .int .i64 t] 49))) (by go_grown) hb4; have k0 : w4.cell? ⟨w1.heap.size, 0, none⟩ = some (.int .i64 r) := (below_cells4 hx _ _ (by simp)).trans (by go_simp); have k1 : w4.cell? ⟨w1.heap.size, 1, none⟩ = some (.int .i64 u) := (below_cells4 hx _ _ (by simp)).trans (by go_simp); have k2 : w4.cell? ⟨w1.heap.size, 2, none⟩ = some (.int .i64 l) := (below_cells4 hx _ _ (by simp)).trans (by go_simp); have k3 : w4.cell? ⟨w1.heap.size, 3, none⟩ = some (.int .i64 t) := (below_cells4 hx _ _ (by simp)).trans (by go_simp); have zx := lt_of_x hx; have zb := hbw.size; have tk1 := hb4))
      go_ret
      exact ⟨rfl, by go_grown⟩
    · have HT : Hid (whenOf r u l t n = T) := hT
      have H1 : Hid (takeF r u l t T n = true) := h1
      have H2 : Hid (takeF r u l t (T - 1) n = false) := h2
      have e0 : decide (T < 0) = false := decide_eq_false (by omega)
      have e1 : (T == 1000000000000000) = false := by simp; omega
      have e2 : (T == t) = false := by simp; omega
      have e3 : t < T := by omega
      clear hT h1 h2
      go_wp2_with (first
        | (go_at_call 35; refine (implWhen_any r u l t n _).mono ?_; rintro e w2 ⟨rfl, hb2⟩; rw [HT.out]; have hbw := below_two (w := w) (by go_grown) hb2; have hx := below_two (w := (w1.alloc (.cells #[.int .i64 r, .int .i64 u, .int .i64 l, .int .i64 t] 49))) (by go_grown) hb2; have k0 : w2.cell? ⟨w1.heap.size, 0, none⟩ = some (.int .i64 r) := (below_cells4 hx _ _ (by simp)).trans (by go_simp); have k1 : w2.cell? ⟨w1.heap.size, 1, none⟩ = some (.int .i64 u) := (below_cells4 hx _ _ (by simp)).trans (by go_simp); have k2 : w2.cell? ⟨w1.heap.size, 2, none⟩ = some (.int .i64 l) := (below_cells4 hx _ _ (by simp)).trans (by go_simp); have k3 : w2.cell? ⟨w1.heap.size, 3, none⟩ = some (.int .i64 t) := (below_cells4 hx _ _ (by simp)).trans (by go_simp); have zx := lt_of_x hx; have zb := hbw.size)
        | (go_at_call 36; refine (specWhen_any r u l t n _).mono ?_; rintro e w3 ⟨rfl, hb3⟩; rw [HT.out]; have hbw := below_two (w := w) (by go_grown) hb3; have hx := below_two (w := (w1.alloc (.cells #[.int .i64 r, .int .i64 u, .int .i64 l, .int .i64 t] 49))) (by go_grown) hb3; have k0 : w3.cell? ⟨w1.heap.size, 0, none⟩ = some (.int .i64 r) := (below_cells4 hx _ _ (by simp)).trans (by go_simp); have k1 : w3.cell? ⟨w1.heap.size, 1, none⟩ = some (.int .i64 u) := (below_cells4 hx _ _ (by simp)).trans (by go_simp); have k2 : w3.cell? ⟨w1.heap.size, 2, none⟩ = some (.int .i64 l) := (below_cells4 hx _ _ (by simp)).trans (by go_simp); have k3 : w3.cell? ⟨w1.heap.size, 3, none⟩ = some (.int .i64 t) := (below_cells4 hx _ _ (by simp)).trans (by go_simp); have zx := lt_of_x hx; have zb := hbw.size)
        | (go_at_call 29; have g1 := tk1; refine (implTake_any r u l t _ n _).mono ?_; rintro e w5 ⟨rfl, hb5⟩; rw [H2.out]; have hbw := below_two (w := w) (by go_grown) hb5; have hx := below_two (w := (w1.alloc (.cells #[.int .i64 r, .int .i64 u, .int .i64 l, .int .i64 t] 49))) (by go_grown) hb5; have k0 : w5.cell? ⟨w1.heap.size, 0, none⟩ = some (.int .i64 r) := (below_cells4 hx _ _ (by simp)).trans (by go_simp); have k1 : w5.cell? ⟨w1.heap.size, 1, none⟩ = some (.int .i64 u) := (below_cells4 hx _ _ (by simp)).trans (by go_simp); have k2 : w5.cell? ⟨w1.heap.size, 2, none⟩ = some (.int .i64 l) := (below_cells4 hx _ _ (by simp)).trans (by go_simp); have k3 : w5.cell? ⟨w1.heap.size, 3, none⟩ = some (.int .i64 t) := (below_cells4 hx _ _ (by simp)).trans (by go_simp); have zx := lt_of_x hx; have zb := hbw.size)
        | (go_at_call 29; refine (implTake_any r u l t _ n _).mono ?_; rintro e w4 ⟨rfl, hb4⟩; rw [H1.out]; have hbw := below_two (w := w) (by go_grown) hb4; have hx := below_two (w := (w1.alloc (.cells #[.int .i64 r, .int .i64 u, .int .i64 l, .int .i64 t] 49))) (by go_grown) hb4; have k0 : w4.cell? ⟨w1.heap.size, 0, none⟩ = some (.int .i64 r) := (below_cells4 hx _ _ (by simp)).trans (by go_simp); have k1 : w4.cell? ⟨w1.heap.size, 1, none⟩ = some (.int .i64 u) := (below_cells4 hx _ _ (by simp)).trans (by go_simp); have k2 : w4.cell? ⟨w1.heap.size, 2, none⟩ = some (.int .i64 l) := (below_cells4 hx _ _ (by simp)).trans (by go_simp); have k3 : w4.cell? ⟨w1.heap.size, 3, none⟩ = some (.int .i64 t) := (below_cells4 hx _ _ (by simp)).trans (by go_simp); have zx := lt_of_x hx; have zb := hbw.size; have tk1 := hb4))
      go_ret
      exact ⟨rfl, by go_grown⟩
  · have hbig : (4096 : Int) < (len0 : Int) := by omega
    go_enter Try.func8, Try.ntmps8
    go_wp2
    go_ret
    exact ⟨rfl, Below.refl _ _⟩

/-! ### THE ROW's STEP: WRITTEN OUT: LEAVE IT -/
set_option maxRecDepth 100000 in
theorem lifted (os : Os) (started : os.Started) (H : Type) (enc : TypeId × Value → H) :
    ReturnsInHanded {} Try.checked os 8 .any (Rows.fnWhenSpec.pre6 enc Try.prog Try.f8 Rows.fnWhenRow.domain false) (Rows.fnWhenSpec.post enc Try.prog Try.f8 false true false false) := by
  refine returnsInHanded_of_change (C := Try.checked) own started (by kernel_rfl) Try.func8
    (ChangeSpec.witness6 (enc := enc) (C := Try.checked) false ⟨#[], #[.slice none 0 0], []⟩ 8 (by kernel_rfl) (by kernel_rfl) (by kernel_rfl) (by kernel_rfl)) ?_
  intro W base args ds gs before hval0 hW hcnd _
  have hval : ∀ (j : Nat) t v, Try.f8.params[j]? = some t → args[j]? = some v → Value.okWide Try.prog W .any base t v := hval0
  have hW' := hW
  obtain ⟨p, q, hA0, hV, rfl, hfz, hnd⟩ := hW
  have hA : DataW.TrodAll enc Try.prog W 0 (fun _ => true) true Try.f8.params.toList args.toList ds p := hA0
  rw [Try.params8] at hA hval
  obtain ⟨v0, vs0, d0, ds0, p0, q0, hargs, rfl, rfl, h0, r0⟩ := trodAll_cons hA
  obtain ⟨rfl, rfl, rfl⟩ := trodAll_nil r0
  obtain rfl : args = #[v0] := by cases args; simp_all
  obtain ⟨rfl, rfl⟩ := trodVars_none hV
  obtain ⟨a0, len0, cap0, rfl⟩ := okWide_slice Try.underlying22 (hval 0 22 v0 rfl rfl)
  have k0 := h0
  have lt0 : ∀ x ∈ p0, x.block < W.heap.size := by obtain ⟨m, hm⟩ := k0; exact DataW.trod_lt m _ _ _ hm
  obtain ⟨z0, w0⟩ : ∃ zs, IsRow .u8 W a0 len0 cap0 zs := by
    obtain ⟨fuel, hf⟩ := h0
    rcases open_ints Try.underlying22 Try.underlying5 (by kernel_rfl) hf with ⟨hcs, _⟩ | ⟨x, l, c, zs, hcs, _, hl, hm, hz, _, hcell, hwz⟩
    · simp [Value.cells] at hcs
      obtain ⟨rfl, rfl, rfl⟩ := hcs
      exact ⟨[], .inl ⟨rfl, rfl, rfl, rfl⟩⟩
    · simp [Value.cells] at hcs
      obtain ⟨rfl, rfl, rfl⟩ := hcs
      exact ⟨zs, .inr ⟨_, rfl, hl, hm, by simpa using hz, hcell, hwz⟩⟩
  clear hA0 hval0
  refine (walk a0 len0 cap0 z0 W w0).mono fun e W' ⟨he, bel⟩ => ?_
  subst he
  exact ⟨_, rfl, _, _, _, [], _, [], hW', trodAll_mk1 (shut_bool Try.underlying4 _), (trodAll_cons_mk (Below.trod laidOut (by kernel_rfl) (of_decide_eq_true (by kernel_rfl)) k0 bel lt0) trodAll_mk0), rfl, bel.frame _, fun h => by cases h⟩

theorem over : Rows.fnWhenRow.holds Try.pinned (OpenSpec.ofChange Rows.fnWhenSpec) :=
  OpenClaim.holds_of_wide 8 Try.f8 rfl rfl rfl rfl rfl rfl rfl ⟨rfl, rfl, rfl, rfl, rfl⟩ rfl rfl rfl rfl rfl (by kernel_rfl) Try.func8 (by kernel_rfl)
    (of_decide_eq_true (by kernel_rfl)) (by unfold Func.isWrapper; first | (rw [if_pos (by decide +kernel)]; kernel_rfl) | (rw [if_neg (by decide +kernel)]; exact ⟨rfl, rfl⟩))
    (fun os started H enc _ => lifted os started H enc)

/-- ████ THE STATEMENT ████ -/
theorem proved : Rows.FnWhenSaid := over
#print axioms proved
end Go.Proofs.Yteefeookjmpecab.fnWhen
namespace Go.Proofs.Yteefeookjmpecab
theorem fnWhen_holds : Rows.FnWhenSaid := fnWhen.proved
#print axioms fnWhen_holds
end Go.Proofs.Yteefeookjmpecab
