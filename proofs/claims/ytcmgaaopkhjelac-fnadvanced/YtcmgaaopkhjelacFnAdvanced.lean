/- Proved: whatever the bytes, the law FnAdvanced returns true (at the wheel and the time that the model draws of them impl.Advance answers as spec's does; advanced in two steps a wheel and what fires are as in one), and the bytes read as before; no condition. -/
import Derived.Test.YtcmgaaopkhjelacRows
import Derived.WalkKit
import Derived.ProofKit
import Derived.OpenShut
import Derived.ShutString
import Derived.ChangeOld
import Derived.Below
import Derived.Test.YtcmgaaopkhjelacWheelBoth
import Derived.Test.YtcmgaaopkhjelacLikeW
import Derived.Test.YtcmgaaopkhjelacAdvMath
import Derived.Test.YtcmgaaopkhjelacDrawAdv
import Derived.Test.YtcmgaaopkhjelacDrawLevel
import Derived.Test.YtcmgaaopkhjelacAppI
import Derived.Deep.RegionHeld3
import Derived.Deep.DeepCutAuto
namespace Go.Proofs.Ytcmgaaopkhjelac.fnAdvanced
open Go.ChangeShapes Go.WideShapes Go.ChangeAt Go.RowKit
open Go.ChangeMaps (open_string shut_string)
set_option linter.unusedVariables false

theorem own : ownKnob Try.prog.godebug = none := by kernel_rfl
theorem laidOut : laidOutB Try.prog = true := by kernel_rfl

/-- WHAT THE WALK IS TOLD OF A SLICE OF INTEGERS THAT CAME IN: it is nil; or it leads to a row of 'cap' cells, the numbers 'zs' (the first 'len' are its elements, the rest its spare room), each fitting its kind. -/
def IsRow (k : IntKind) (w : World) (a : Option Addr) (len cap : Nat) (zs : List Int) : Prop :=
  (a = none ∧ len = 0 ∧ cap = 0 ∧ zs = []) ∨
  ∃ x, a = some x ∧ len ≤ cap ∧ cap ≤ maxLen ∧ zs.length = cap ∧ (∀ i, i < zs.length → w.cell? (x.add i) = some (.int k (zs.getD i 0))) ∧ ∀ n ∈ zs, (Lit.int k n).wf = true

set_option linter.unusedSimpArgs false
set_option maxRecDepth 100000
theorem row_of {w : World} {a : Option Addr} {len cap : Nat} {zs : List Int} (h : IsRow .u8 w a len cap zs) : Row w.heap.size a len w := by
  intro i hi
  rcases h with ⟨rfl, rfl, rfl, rfl⟩ | ⟨x, rfl, hl, hm, hz, hcell, hwz⟩
  · omega
  · obtain ⟨b, off, spot⟩ := x
    have hspot : spot = none := by simpa [Addr.add] using World.cell?_spot (hcell 0 (by omega))
    subst hspot
    have hc := hcell i (by omega)
    have hc' : w.cell? ⟨b, off + i, none⟩ = some (.int .u8 (zs.getD i 0)) := by
      by_cases h0 : i = 0
      · subst h0; simpa [Addr.add] using hc
      · simpa [Addr.add, h0] using hc
    have hlt : i < zs.length := by omega
    have hm : zs.getD i 0 ∈ zs := by simp [List.getD, List.getElem?_eq_getElem hlt]
    obtain ⟨z0, z1⟩ := bounds_u8 (hwz _ hm)
    exact ⟨b, off, zs.getD i 0, rfl, World.block_lt_of_cell? w _ hc', hc', z0, z1⟩
theorem time_ok {x : Int} (h : timeB x = true) : 0 ≤ x ∧ x ≤ 1000000000000000 := by simpa [timeB] using h
theorem fv_parts {w : World} {lo n c : Nat} {a : Option Addr} {ys : List (Int × Int)} (h : FW w lo (.slice a n c) ys) : n = ys.length ∧ Smp w.heap.size w a ys ∧ ys.length ≤ c ∧ (a = none → c = 0) := by
  rcases h with ⟨g, cap, e, h1, h2, f, hc⟩ | ⟨⟨a0, e⟩, rfl⟩
  · injection e with e1 e2 e3
    subst e1 e2 e3
    exact ⟨rfl, f.smp h2, hc, fun k => by cases k⟩
  · injection e with e1 e2 e3
    subst e1 e2 e3
    exact ⟨rfl, (fun i h => by cases h), Nat.le_refl _, fun _ => rfl⟩
theorem fv_read {w : World} {lo c : Nat} {a : Option Addr} {ys : List (Int × Int)} (h : FW w lo (.slice a ys.length c) ys) : Smp w.heap.size w a ys := (fv_parts h).2.1
theorem app_iv {w : World} {base : Nat} {v : Value} {e : TypeId} {xs ys : List Int} (h : w.ownsRow base e 1 v (0 + xs.length + ys.length) ([] ++ flatI xs ++ flatI ys)) : IV w base v (xs ++ ys) := by
  refine own_ints (t := e) ?_
  rw [List.length_append, flatI_append]
  simpa using h
theorem iv_length {w : World} {lo m d : Nat} {e : Option Addr} {ds : List Int} (h : IV w lo (.slice e m d) ds) : m = ds.length := by
  obtain ⟨a, c, k, _⟩ := h.smp
  injection k with _ k _

/-! ### STEP 1: THE WALK: the Go text returns true, AND WRITES NOTHING THAT WAS THERE: 'Below w.heap.size w w'' (Derived/Below.lean: '.refl', '.alloc', '.drew', '.setCell' at a new block, '.trans'). Open each 'IsRow' by 'rcases' AHEAD of 'go_enter'; part every test ahead of the walk. -/
set_option maxHeartbeats 16000000 in
theorem walk (a0 : Option Addr) (len0 cap0 : Nat) (z0 : List Int) (w : World) (w0 : IsRow .u8 w a0 len0 cap0 z0) :
    Calls Try.prog 5 #[.slice a0 len0 cap0] w fun e w' => e = .returned (.bool true) ∧ Below w.heap.size w w' := by
  have row := row_of w0
  by_cases hs : len0 ≤ 4096
  · obtain ⟨j0, hj, jz0, jz1, jz2⟩ := info_parts info_i64
    go_enter Try.func5, Try.ntmps5
    go_upto_region 4 with (first
      | (go_at_call 23; refine (drawAdvance_any cap0 hs row (Nat.le_refl _)).mono ?_; rintro e w1 ⟨t, a3, n3, c3, A, m, rfl, hfv, hA, htb, hmb, hbw⟩; obtain ⟨rfl, _, hAc, hAn⟩ := fv_parts hfv)
      | go_in)
    have C : Hid (Cells w1 []) := trivial
    obtain ⟨va, hv⟩ : ∃ v, v = w1.alloc (.cells #[.int .i64 t, .slice a3 A.length c3] 36) := ⟨_, rfl⟩
    rw [← hv]
    have hbA : Below w1.heap.size w1 va := by rw [hv]; exact new_below _ _
    have cA0 : va.cell? ⟨w1.heap.size, 0, none⟩ = some (.int .i64 t) := by rw [hv]; go_simp
    have cA1 : va.cell? ⟨w1.heap.size, 1, none⟩ = some (.slice a3 A.length c3) := by rw [hv]; go_simp
    have zA : w1.heap.size < va.heap.size := by rw [hv]; simp
    clear hv
    obtain ⟨b3, hb3⟩ : ∃ b, b = w1.heap.size := ⟨_, rfl⟩
    rw [← hb3] at cA0 cA1 ⊢
    have yb3 : b3 < va.heap.size := by omega
    clear hb3
    have hbw := below_step hbw hbA
    have C : Hid (Cells va [(b3, 0, .int .i64 t), (b3, 1, .slice a3 A.length c3)]) := by
      obtain ⟨_⟩ := C.out.next hbA
      exact ⟨⟨yb3, cA0⟩, ⟨yb3, cA1⟩, trivial⟩
    have ⟨⟨kz0, k0⟩, ⟨kz1, k1⟩, _⟩ := C.out
    have zw := hbw.size
    have fv3 := hfv.next hbA
    clear hfv
    have hA63 : (A.length : Int) ≤ 9223372036854775807 := by omega
    by_cases good : WOk t A ∧ timeB m = true ∧ t ≤ m
    rotate_left
    · skip
      obtain ⟨T, hT0⟩ : ∃ T : Int, T = 0 := ⟨_, rfl⟩
      obtain ⟨ys, hys0⟩ : ∃ ys : List (Int × Int), ys = [] := ⟨_, rfl⟩
      obtain ⟨ds, hds0⟩ : ∃ ds : List Int, ds = [] := ⟨_, rfl⟩
      have HIM : Hid (∀ (w : World) (a : Option Addr) (cap : Nat), Smp w.heap.size w a A → A.length ≤ cap → (a = none → cap = 0) → Calls Try.prog 21 #[.agg #[.int .i64 t, .slice a A.length cap], .int .i64 m] w (AdvPost w T ys ds)) := by
        rw [hT0, hys0, hds0]
        exact fun w a cap h hc hn => implAdvance_no cap m h hc hn hA63 good
      have HSP : Hid (∀ (w : World) (a : Option Addr) (cap : Nat), Smp w.heap.size w a A → Calls Try.prog 24 #[.agg #[.int .i64 t, .slice a A.length cap], .int .i64 m] w (AdvPost w T ys ds)) := by
        rw [hT0, hys0, hds0]
        exact fun w a cap h => specAdvance_no cap m h hA63 good
      have hyl : ys.length ≤ 200 := by rw [hys0]; simp
      have hdl : ds.length ≤ 200 := by rw [hds0]; simp
      have HD0 : Hid (ds.length = 0) := by rw [hds0]; rfl
      clear hT0 hys0 hds0
      go_upto_region 5 with (first
        | (go_at_call 21; refine (HIM.out _ _ _ ((fv_read fv3).here (by go_grown)) hAc hAn).mono ?_; rintro e vI ⟨a5, n5, c5, e5, m5, d5, rfl, hfv, hiv, hap, hbP⟩; have hbw := below_step (w := w) (by go_grown) hbP; have C : Hid (Cells vI [(b3, 0, .int .i64 t), (b3, 1, .slice a3 A.length c3)]) := C.out.next (below_step (by go_grown) hbP); have ⟨⟨kz0, k0⟩, ⟨kz1, k1⟩, _⟩ := C.out; have fv3 := fv3.next (below_step (by go_grown) hbP); have zw := hbw.size))
      obtain ⟨v2, hv⟩ : ∃ v, v = vI.alloc (.cells #[.int .i64 T, .slice a5 n5 c5] 36) := ⟨_, rfl⟩
      rw [← hv]
      have hbA : Below vI.heap.size vI v2 := by rw [hv]; exact new_below _ _
      have cA0 : v2.cell? ⟨vI.heap.size, 0, none⟩ = some (.int .i64 T) := by rw [hv]; go_simp
      have cA1 : v2.cell? ⟨vI.heap.size, 1, none⟩ = some (.slice a5 n5 c5) := by rw [hv]; go_simp
      have zA : vI.heap.size < v2.heap.size := by rw [hv]; simp
      clear hv
      obtain ⟨b5, hb5⟩ : ∃ b, b = vI.heap.size := ⟨_, rfl⟩
      rw [← hb5] at cA0 cA1 ⊢
      have yb5 : b5 < v2.heap.size := by omega
      clear hb5
      have hbw := below_step hbw hbA
      have C : Hid (Cells v2 [(b3, 0, .int .i64 t), (b3, 1, .slice a3 A.length c3), (b5, 0, .int .i64 T), (b5, 1, .slice a5 n5 c5)]) := by
        obtain ⟨c0, c1, _⟩ := C.out.next hbA
        exact ⟨c0, c1, ⟨yb5, cA0⟩, ⟨yb5, cA1⟩, trivial⟩
      have ⟨⟨kz0, k0⟩, ⟨kz1, k1⟩, ⟨kz2, k2⟩, ⟨kz3, k3⟩, _⟩ := C.out
      have fv3 := fv3.next hbA
      have zw := hbw.size
      have fv5 := hfv.next hbA
      have iv5 := hiv.next hbA
      clear hfv hiv hap
      go_upto_region 6 with (first
        | (go_at_call 24; refine (HSP.out _ _ _ ((fv_read fv3).here (by go_grown))).mono ?_; rintro e vS ⟨a7, n7, c7, e7, m7, d7, rfl, hfv, hiv, hap, hbP⟩; have hbw := below_step (w := w) (by go_grown) hbP; have C : Hid (Cells vS [(b3, 0, .int .i64 t), (b3, 1, .slice a3 A.length c3), (b5, 0, .int .i64 T), (b5, 1, .slice a5 n5 c5)]) := C.out.next (below_step (by go_grown) hbP); have ⟨⟨kz0, k0⟩, ⟨kz1, k1⟩, ⟨kz2, k2⟩, ⟨kz3, k3⟩, _⟩ := C.out; have fv3 := fv3.next (below_step (by go_grown) hbP); have fv5 := fv5.next (below_step (by go_grown) hbP); have iv5 := iv5.next (below_step (by go_grown) hbP); have zw := hbw.size))
      obtain ⟨v3, hv⟩ : ∃ v, v = vS.alloc (.cells #[.int .i64 T, .slice a7 n7 c7] 36) := ⟨_, rfl⟩
      rw [← hv]
      have hbA : Below vS.heap.size vS v3 := by rw [hv]; exact new_below _ _
      have cA0 : v3.cell? ⟨vS.heap.size, 0, none⟩ = some (.int .i64 T) := by rw [hv]; go_simp
      have cA1 : v3.cell? ⟨vS.heap.size, 1, none⟩ = some (.slice a7 n7 c7) := by rw [hv]; go_simp
      have zA : vS.heap.size < v3.heap.size := by rw [hv]; simp
      clear hv
      obtain ⟨b7, hb7⟩ : ∃ b, b = vS.heap.size := ⟨_, rfl⟩
      rw [← hb7] at cA0 cA1 ⊢
      have yb7 : b7 < v3.heap.size := by omega
      clear hb7
      have hbw := below_step hbw hbA
      have C : Hid (Cells v3 [(b3, 0, .int .i64 t), (b3, 1, .slice a3 A.length c3), (b5, 0, .int .i64 T), (b5, 1, .slice a5 n5 c5), (b7, 0, .int .i64 T), (b7, 1, .slice a7 n7 c7)]) := by
        obtain ⟨c0, c1, c2, c3, _⟩ := C.out.next hbA
        exact ⟨c0, c1, c2, c3, ⟨yb7, cA0⟩, ⟨yb7, cA1⟩, trivial⟩
      have ⟨⟨kz0, k0⟩, ⟨kz1, k1⟩, ⟨kz2, k2⟩, ⟨kz3, k3⟩, ⟨kz4, k4⟩, ⟨kz5, k5⟩, _⟩ := C.out
      have fv3 := fv3.next hbA
      have fv5 := fv5.next hbA
      have iv5 := iv5.next hbA
      have zw := hbw.size
      have fv7 := hfv.next hbA
      have iv7 := hiv.next hbA
      clear hfv hiv hap
      obtain rfl := iv_length iv5
      have hd0 : ((ds.length : Int) == 0) = true := by rw [HD0.out]; rfl
      by_cases hW : WOk t A
      · have ht0 := time_ok hW.1
        by_cases hmt : m < t
        · go_wp2_with (first
            | (go_at_call 19; refine (likeW_same T fv5 fv7 (by omega)).mono ?_; rintro e vL ⟨rfl, hbE⟩; have hbw := below_step (w := w) (by go_grown) hbE; have C : Hid (Cells vL [(b3, 0, .int .i64 t), (b3, 1, .slice a3 A.length c3), (b5, 0, .int .i64 T), (b5, 1, .slice a5 n5 c5), (b7, 0, .int .i64 T), (b7, 1, .slice a7 n7 c7)]) := C.out.next (below_step (by go_grown) hbE); have ⟨⟨kz0, k0⟩, ⟨kz1, k1⟩, ⟨kz2, k2⟩, ⟨kz3, k3⟩, ⟨kz4, k4⟩, ⟨kz5, k5⟩, _⟩ := C.out; have fv3 := fv3.next (below_step (by go_grown) hbE); have fv5 := fv5.next (below_step (by go_grown) hbE); have iv5 := iv5.next (below_step (by go_grown) hbE); have fv7 := fv7.next (below_step (by go_grown) hbE); have iv7 := iv7.next (below_step (by go_grown) hbE); have zw := hbw.size)
            | (go_at_call 25; refine (likeI_any iv5 iv7 (by omega)).mono ?_; rintro e vL ⟨rfl, hbE⟩; rw [show decide (ds = ds) = true from decide_eq_true rfl]; have hbw := below_step (w := w) (by go_grown) hbE; have C : Hid (Cells vL [(b3, 0, .int .i64 t), (b3, 1, .slice a3 A.length c3), (b5, 0, .int .i64 T), (b5, 1, .slice a5 n5 c5), (b7, 0, .int .i64 T), (b7, 1, .slice a7 n7 c7)]) := C.out.next (below_step (by go_grown) hbE); have ⟨⟨kz0, k0⟩, ⟨kz1, k1⟩, ⟨kz2, k2⟩, ⟨kz3, k3⟩, ⟨kz4, k4⟩, ⟨kz5, k5⟩, _⟩ := C.out; have fv3 := fv3.next (below_step (by go_grown) hbE); have fv5 := fv5.next (below_step (by go_grown) hbE); have iv5 := iv5.next (below_step (by go_grown) hbE); have fv7 := fv7.next (below_step (by go_grown) hbE); have iv7 := iv7.next (below_step (by go_grown) hbE); have zw := hbw.size)
            | (go_at_call 26; refine (specWheelOk_yes _ (fv_read fv3) hW).mono ?_; rintro e vK ⟨rfl, hbK⟩; have hbw := below_step (w := w) (by go_grown) hbK; have C : Hid (Cells vK [(b3, 0, .int .i64 t), (b3, 1, .slice a3 A.length c3), (b5, 0, .int .i64 T), (b5, 1, .slice a5 n5 c5), (b7, 0, .int .i64 T), (b7, 1, .slice a7 n7 c7)]) := C.out.next (below_step (by go_grown) hbK); have ⟨⟨kz0, k0⟩, ⟨kz1, k1⟩, ⟨kz2, k2⟩, ⟨kz3, k3⟩, ⟨kz4, k4⟩, ⟨kz5, k5⟩, _⟩ := C.out; have fv3 := fv3.next (below_step (by go_grown) hbK); have fv5 := fv5.next (below_step (by go_grown) hbK); have iv5 := iv5.next (below_step (by go_grown) hbK); have zw := hbw.size))
          go_ret
          exact ⟨rfl, hbw⟩
        · have hmt' : decide (m < t) = false := decide_eq_false hmt
          have hbig : 1000000000000000 < m := by
            rcases Int.lt_or_le 1000000000000000 m with k | k
            · exact k
            · exact absurd ⟨hW, (by unfold timeB; rw [decide_eq_true (by omega), decide_eq_true k]; rfl), by omega⟩ good
          go_wp2_with (first
            | (go_at_call 19; refine (likeW_same T fv5 fv7 (by omega)).mono ?_; rintro e vL ⟨rfl, hbE⟩; have hbw := below_step (w := w) (by go_grown) hbE; have C : Hid (Cells vL [(b3, 0, .int .i64 t), (b3, 1, .slice a3 A.length c3), (b5, 0, .int .i64 T), (b5, 1, .slice a5 n5 c5), (b7, 0, .int .i64 T), (b7, 1, .slice a7 n7 c7)]) := C.out.next (below_step (by go_grown) hbE); have ⟨⟨kz0, k0⟩, ⟨kz1, k1⟩, ⟨kz2, k2⟩, ⟨kz3, k3⟩, ⟨kz4, k4⟩, ⟨kz5, k5⟩, _⟩ := C.out; have fv3 := fv3.next (below_step (by go_grown) hbE); have fv5 := fv5.next (below_step (by go_grown) hbE); have iv5 := iv5.next (below_step (by go_grown) hbE); have fv7 := fv7.next (below_step (by go_grown) hbE); have iv7 := iv7.next (below_step (by go_grown) hbE); have zw := hbw.size)
            | (go_at_call 25; refine (likeI_any iv5 iv7 (by omega)).mono ?_; rintro e vL ⟨rfl, hbE⟩; rw [show decide (ds = ds) = true from decide_eq_true rfl]; have hbw := below_step (w := w) (by go_grown) hbE; have C : Hid (Cells vL [(b3, 0, .int .i64 t), (b3, 1, .slice a3 A.length c3), (b5, 0, .int .i64 T), (b5, 1, .slice a5 n5 c5), (b7, 0, .int .i64 T), (b7, 1, .slice a7 n7 c7)]) := C.out.next (below_step (by go_grown) hbE); have ⟨⟨kz0, k0⟩, ⟨kz1, k1⟩, ⟨kz2, k2⟩, ⟨kz3, k3⟩, ⟨kz4, k4⟩, ⟨kz5, k5⟩, _⟩ := C.out; have fv3 := fv3.next (below_step (by go_grown) hbE); have fv5 := fv5.next (below_step (by go_grown) hbE); have iv5 := iv5.next (below_step (by go_grown) hbE); have fv7 := fv7.next (below_step (by go_grown) hbE); have iv7 := iv7.next (below_step (by go_grown) hbE); have zw := hbw.size)
            | (go_at_call 26; refine (specWheelOk_yes _ (fv_read fv3) hW).mono ?_; rintro e vK ⟨rfl, hbK⟩; have hbw := below_step (w := w) (by go_grown) hbK; have C : Hid (Cells vK [(b3, 0, .int .i64 t), (b3, 1, .slice a3 A.length c3), (b5, 0, .int .i64 T), (b5, 1, .slice a5 n5 c5), (b7, 0, .int .i64 T), (b7, 1, .slice a7 n7 c7)]) := C.out.next (below_step (by go_grown) hbK); have ⟨⟨kz0, k0⟩, ⟨kz1, k1⟩, ⟨kz2, k2⟩, ⟨kz3, k3⟩, ⟨kz4, k4⟩, ⟨kz5, k5⟩, _⟩ := C.out; have fv3 := fv3.next (below_step (by go_grown) hbK); have fv5 := fv5.next (below_step (by go_grown) hbK); have iv5 := iv5.next (below_step (by go_grown) hbK); have zw := hbw.size))
          go_ret
          exact ⟨rfl, hbw⟩
      · go_wp2_with (first
          | (go_at_call 19; refine (likeW_same T fv5 fv7 (by omega)).mono ?_; rintro e vL ⟨rfl, hbE⟩; have hbw := below_step (w := w) (by go_grown) hbE; have C : Hid (Cells vL [(b3, 0, .int .i64 t), (b3, 1, .slice a3 A.length c3), (b5, 0, .int .i64 T), (b5, 1, .slice a5 n5 c5), (b7, 0, .int .i64 T), (b7, 1, .slice a7 n7 c7)]) := C.out.next (below_step (by go_grown) hbE); have ⟨⟨kz0, k0⟩, ⟨kz1, k1⟩, ⟨kz2, k2⟩, ⟨kz3, k3⟩, ⟨kz4, k4⟩, ⟨kz5, k5⟩, _⟩ := C.out; have fv3 := fv3.next (below_step (by go_grown) hbE); have fv5 := fv5.next (below_step (by go_grown) hbE); have iv5 := iv5.next (below_step (by go_grown) hbE); have fv7 := fv7.next (below_step (by go_grown) hbE); have iv7 := iv7.next (below_step (by go_grown) hbE); have zw := hbw.size)
          | (go_at_call 25; refine (likeI_any iv5 iv7 (by omega)).mono ?_; rintro e vL ⟨rfl, hbE⟩; rw [show decide (ds = ds) = true from decide_eq_true rfl]; have hbw := below_step (w := w) (by go_grown) hbE; have C : Hid (Cells vL [(b3, 0, .int .i64 t), (b3, 1, .slice a3 A.length c3), (b5, 0, .int .i64 T), (b5, 1, .slice a5 n5 c5), (b7, 0, .int .i64 T), (b7, 1, .slice a7 n7 c7)]) := C.out.next (below_step (by go_grown) hbE); have ⟨⟨kz0, k0⟩, ⟨kz1, k1⟩, ⟨kz2, k2⟩, ⟨kz3, k3⟩, ⟨kz4, k4⟩, ⟨kz5, k5⟩, _⟩ := C.out; have fv3 := fv3.next (below_step (by go_grown) hbE); have fv5 := fv5.next (below_step (by go_grown) hbE); have iv5 := iv5.next (below_step (by go_grown) hbE); have fv7 := fv7.next (below_step (by go_grown) hbE); have iv7 := iv7.next (below_step (by go_grown) hbE); have zw := hbw.size)
          | (go_at_call 26; refine (specWheelOk_no _ (fv_read fv3) hA63 hW).mono ?_; rintro e vK ⟨rfl, hbK⟩; have hbw := below_step (w := w) (by go_grown) hbK; have C : Hid (Cells vK [(b3, 0, .int .i64 t), (b3, 1, .slice a3 A.length c3), (b5, 0, .int .i64 T), (b5, 1, .slice a5 n5 c5), (b7, 0, .int .i64 T), (b7, 1, .slice a7 n7 c7)]) := C.out.next (below_step (by go_grown) hbK); have ⟨⟨kz0, k0⟩, ⟨kz1, k1⟩, ⟨kz2, k2⟩, ⟨kz3, k3⟩, ⟨kz4, k4⟩, ⟨kz5, k5⟩, _⟩ := C.out; have fv3 := fv3.next (below_step (by go_grown) hbK); have fv5 := fv5.next (below_step (by go_grown) hbK); have iv5 := iv5.next (below_step (by go_grown) hbK); have zw := hbw.size))
        go_ret
        exact ⟨rfl, hbw⟩
    · skip
      obtain ⟨hW, hTm, htm⟩ := good
      have ht0 := time_ok hW.1
      have hm0 := time_ok hTm
      obtain ⟨T, hT⟩ : ∃ T, m = T := ⟨_, rfl⟩
      obtain ⟨ys, hys⟩ : ∃ ys, restOf m A = ys := ⟨_, rfl⟩
      obtain ⟨ds, hds⟩ : ∃ ds, dueOf m A = ds := ⟨_, rfl⟩
      have HIM : Hid (∀ (w : World) (a : Option Addr) (cap : Nat), Smp w.heap.size w a A → A.length ≤ cap → (a = none → cap = 0) → Calls Try.prog 21 #[.agg #[.int .i64 t, .slice a A.length cap], .int .i64 m] w (AdvPost w T ys ds)) := by
        rw [← hys, ← hds]
        exact fun w a cap h hc hn => hT ▸ implAdvance_yes cap m h hc hn hW hTm htm
      have HSP : Hid (∀ (w : World) (a : Option Addr) (cap : Nat), Smp w.heap.size w a A → Calls Try.prog 24 #[.agg #[.int .i64 t, .slice a A.length cap], .int .i64 m] w (AdvPost w T ys ds)) := by
        rw [← hys, ← hds]
        exact fun w a cap h => hT ▸ specAdvance_yes cap m h hW hTm htm
      have HTT : Hid (m = T) := hT
      have HYS : Hid (restOf m A = ys) := hys
      have HDS : Hid (dueOf m A = ds) := hds
      have hyl : ys.length ≤ 210 := by rw [← hys]; exact Nat.le_trans (List.length_filter_le _ _) hA
      have hsum : ds.length + ys.length = A.length := by rw [← hys, ← hds]; exact due_rest m A
      have HSUM : Hid (ds.length + ys.length = A.length) := hsum
      have hdl : ds.length ≤ 210 := by omega
      clear hT hys hds hsum
      go_upto_region 5 with (first
        | (go_at_call 21; refine (HIM.out _ _ _ ((fv_read fv3).here (by go_grown)) hAc hAn).mono ?_; rintro e vI ⟨a5, n5, c5, e5, m5, d5, rfl, hfv, hiv, hap, hbP⟩; have hbw := below_step (w := w) (by go_grown) hbP; have C : Hid (Cells vI [(b3, 0, .int .i64 t), (b3, 1, .slice a3 A.length c3)]) := C.out.next (below_step (by go_grown) hbP); have ⟨⟨kz0, k0⟩, ⟨kz1, k1⟩, _⟩ := C.out; have fv3 := fv3.next (below_step (by go_grown) hbP); have zw := hbw.size))
      obtain ⟨v2, hv⟩ : ∃ v, v = vI.alloc (.cells #[.int .i64 T, .slice a5 n5 c5] 36) := ⟨_, rfl⟩
      rw [← hv]
      have hbA : Below vI.heap.size vI v2 := by rw [hv]; exact new_below _ _
      have cA0 : v2.cell? ⟨vI.heap.size, 0, none⟩ = some (.int .i64 T) := by rw [hv]; go_simp
      have cA1 : v2.cell? ⟨vI.heap.size, 1, none⟩ = some (.slice a5 n5 c5) := by rw [hv]; go_simp
      have zA : vI.heap.size < v2.heap.size := by rw [hv]; simp
      clear hv
      obtain ⟨b5, hb5⟩ : ∃ b, b = vI.heap.size := ⟨_, rfl⟩
      rw [← hb5] at cA0 cA1 ⊢
      have yb5 : b5 < v2.heap.size := by omega
      clear hb5
      have hbw := below_step hbw hbA
      have C : Hid (Cells v2 [(b3, 0, .int .i64 t), (b3, 1, .slice a3 A.length c3), (b5, 0, .int .i64 T), (b5, 1, .slice a5 n5 c5)]) := by
        obtain ⟨c0, c1, _⟩ := C.out.next hbA
        exact ⟨c0, c1, ⟨yb5, cA0⟩, ⟨yb5, cA1⟩, trivial⟩
      have ⟨⟨kz0, k0⟩, ⟨kz1, k1⟩, ⟨kz2, k2⟩, ⟨kz3, k3⟩, _⟩ := C.out
      have fv3 := fv3.next hbA
      have zw := hbw.size
      have fv5 := hfv.next hbA
      have iv5 := hiv.next hbA
      clear hfv hiv hap
      go_upto_region 6 with (first
        | (go_at_call 24; refine (HSP.out _ _ _ ((fv_read fv3).here (by go_grown))).mono ?_; rintro e vS ⟨a7, n7, c7, e7, m7, d7, rfl, hfv, hiv, hap, hbP⟩; have hbw := below_step (w := w) (by go_grown) hbP; have C : Hid (Cells vS [(b3, 0, .int .i64 t), (b3, 1, .slice a3 A.length c3), (b5, 0, .int .i64 T), (b5, 1, .slice a5 n5 c5)]) := C.out.next (below_step (by go_grown) hbP); have ⟨⟨kz0, k0⟩, ⟨kz1, k1⟩, ⟨kz2, k2⟩, ⟨kz3, k3⟩, _⟩ := C.out; have fv3 := fv3.next (below_step (by go_grown) hbP); have fv5 := fv5.next (below_step (by go_grown) hbP); have iv5 := iv5.next (below_step (by go_grown) hbP); have zw := hbw.size))
      obtain ⟨v3, hv⟩ : ∃ v, v = vS.alloc (.cells #[.int .i64 T, .slice a7 n7 c7] 36) := ⟨_, rfl⟩
      rw [← hv]
      have hbA : Below vS.heap.size vS v3 := by rw [hv]; exact new_below _ _
      have cA0 : v3.cell? ⟨vS.heap.size, 0, none⟩ = some (.int .i64 T) := by rw [hv]; go_simp
      have cA1 : v3.cell? ⟨vS.heap.size, 1, none⟩ = some (.slice a7 n7 c7) := by rw [hv]; go_simp
      have zA : vS.heap.size < v3.heap.size := by rw [hv]; simp
      clear hv
      obtain ⟨b7, hb7⟩ : ∃ b, b = vS.heap.size := ⟨_, rfl⟩
      rw [← hb7] at cA0 cA1 ⊢
      have yb7 : b7 < v3.heap.size := by omega
      clear hb7
      have hbw := below_step hbw hbA
      have C : Hid (Cells v3 [(b3, 0, .int .i64 t), (b3, 1, .slice a3 A.length c3), (b5, 0, .int .i64 T), (b5, 1, .slice a5 n5 c5), (b7, 0, .int .i64 T), (b7, 1, .slice a7 n7 c7)]) := by
        obtain ⟨c0, c1, c2, c3, _⟩ := C.out.next hbA
        exact ⟨c0, c1, c2, c3, ⟨yb7, cA0⟩, ⟨yb7, cA1⟩, trivial⟩
      have ⟨⟨kz0, k0⟩, ⟨kz1, k1⟩, ⟨kz2, k2⟩, ⟨kz3, k3⟩, ⟨kz4, k4⟩, ⟨kz5, k5⟩, _⟩ := C.out
      have fv3 := fv3.next hbA
      have fv5 := fv5.next hbA
      have iv5 := iv5.next hbA
      have zw := hbw.size
      have fv7 := hfv.next hbA
      have iv7 := hiv.next hbA
      clear hfv hiv hap
      obtain rfl := iv_length iv5
      have hn5 := (fv_parts fv5).1
      have HN5 : Hid (n5 = ys.length) := hn5
      clear hn5
      have g1 : decide (m < t) = false := decide_eq_false (by omega)
      have g2 : decide (1000000000000000 < m) = false := decide_eq_false (by omega)
      go_upto_region 10 with (first
        | (go_at_call 19; refine (likeW_same T fv5 fv7 (by omega)).mono ?_; rintro e vL ⟨rfl, hbE⟩; have hbw := below_step (w := w) (by go_grown) hbE; have C : Hid (Cells vL [(b3, 0, .int .i64 t), (b3, 1, .slice a3 A.length c3), (b5, 0, .int .i64 T), (b5, 1, .slice a5 n5 c5), (b7, 0, .int .i64 T), (b7, 1, .slice a7 n7 c7)]) := C.out.next (below_step (by go_grown) hbE); have ⟨⟨kz0, k0⟩, ⟨kz1, k1⟩, ⟨kz2, k2⟩, ⟨kz3, k3⟩, ⟨kz4, k4⟩, ⟨kz5, k5⟩, _⟩ := C.out; have fv3 := fv3.next (below_step (by go_grown) hbE); have fv5 := fv5.next (below_step (by go_grown) hbE); have iv5 := iv5.next (below_step (by go_grown) hbE); have fv7 := fv7.next (below_step (by go_grown) hbE); have iv7 := iv7.next (below_step (by go_grown) hbE); have zw := hbw.size)
        | (go_at_call 25; refine (likeI_any iv5 iv7 (by omega)).mono ?_; rintro e vL ⟨rfl, hbE⟩; rw [show decide (ds = ds) = true from decide_eq_true rfl]; have hbw := below_step (w := w) (by go_grown) hbE; have C : Hid (Cells vL [(b3, 0, .int .i64 t), (b3, 1, .slice a3 A.length c3), (b5, 0, .int .i64 T), (b5, 1, .slice a5 n5 c5), (b7, 0, .int .i64 T), (b7, 1, .slice a7 n7 c7)]) := C.out.next (below_step (by go_grown) hbE); have ⟨⟨kz0, k0⟩, ⟨kz1, k1⟩, ⟨kz2, k2⟩, ⟨kz3, k3⟩, ⟨kz4, k4⟩, ⟨kz5, k5⟩, _⟩ := C.out; have fv3 := fv3.next (below_step (by go_grown) hbE); have fv5 := fv5.next (below_step (by go_grown) hbE); have iv5 := iv5.next (below_step (by go_grown) hbE); have fv7 := fv7.next (below_step (by go_grown) hbE); have iv7 := iv7.next (below_step (by go_grown) hbE); have zw := hbw.size)
        | (go_at_call 26; refine (specWheelOk_yes _ (fv_read fv3) hW).mono ?_; rintro e vK ⟨rfl, hbK⟩; have hbw := below_step (w := w) (by go_grown) hbK; have C : Hid (Cells vK [(b3, 0, .int .i64 t), (b3, 1, .slice a3 A.length c3), (b5, 0, .int .i64 T), (b5, 1, .slice a5 n5 c5), (b7, 0, .int .i64 T), (b7, 1, .slice a7 n7 c7)]) := C.out.next (below_step (by go_grown) hbK); have ⟨⟨kz0, k0⟩, ⟨kz1, k1⟩, ⟨kz2, k2⟩, ⟨kz3, k3⟩, ⟨kz4, k4⟩, ⟨kz5, k5⟩, _⟩ := C.out; have fv3 := fv3.next (below_step (by go_grown) hbK); have fv5 := fv5.next (below_step (by go_grown) hbK); have iv5 := iv5.next (below_step (by go_grown) hbK); have fv7 := fv7.next (below_step (by go_grown) hbK); have iv7 := iv7.next (below_step (by go_grown) hbK); have zw := hbw.size))
      have e1 : IntKind.i64.wrap (m - t) = m - t := by rw [IntKind.wrap_i64]; omega
      have e2 : IntKind.i64.wrap (m - t + 1) = m - t + 1 := by rw [IntKind.wrap_i64]; omega
      have nz : ¬ m - t + 1 = 0 := by omega
      have nz' : (m - t + 1 == 0) = false := by simp; omega
      have row2 := row.mono hbw
      go_cut [9] from 59 (fun s wd => ∃ mid, s = .int .i64 mid ∧ (t ≤ mid ∧ mid ≤ m) ∧ Below vK.heap.size vK wd)
      case first =>
        clear C
        go_region_held3 (fun w' => w'.cell? ⟨b3, 0, none⟩ = some (.int .i64 t)) (first | assumption | (simp only [World.cell?_drew]; assumption) | go_keep)
          (first
            | (go_at_call 11; refine (pickN_any cap0 (m - t + 1) (by omega) (by omega) (by omega) (row2.mono (by go_grown))).mono ?_; rintro e vQ ⟨p, rfl, hp0, hp1, hp2, rfl⟩; have em : p.tmod (m - t + 1) = p := Int.tmod_eq_of_lt hp0 hp1; have ep : IntKind.i64.wrap p = p := (by rw [IntKind.wrap_i64]; omega); have ew : IntKind.i64.wrap (t + p) = t + p := (by rw [IntKind.wrap_i64]; omega)))
        all_goals (repeat go_step)
        all_goals go_meet
        all_goals exact ⟨_, rfl, by omega, by go_grown⟩
      case rest =>
      obtain ⟨v5, hv5⟩ : ∃ v5, v5 = wc := ⟨_, rfl⟩
      subst hv5
      obtain ⟨mid, rfl, hmid, hb5⟩ := hcut
      have hbw := below_step (w := w) (by go_grown) hb5; have C : Hid (Cells v5 [(b3, 0, .int .i64 t), (b3, 1, .slice a3 A.length c3), (b5, 0, .int .i64 T), (b5, 1, .slice a5 n5 c5), (b7, 0, .int .i64 T), (b7, 1, .slice a7 n7 c7)]) := C.out.next (below_step (by go_grown) hb5); have ⟨⟨kz0, k0⟩, ⟨kz1, k1⟩, ⟨kz2, k2⟩, ⟨kz3, k3⟩, ⟨kz4, k4⟩, ⟨kz5, k5⟩, _⟩ := C.out; have fv3 := fv3.next (below_step (by go_grown) hb5); have fv5 := fv5.next (below_step (by go_grown) hb5); have iv5 := iv5.next (below_step (by go_grown) hb5); have fv7 := fv7.next (below_step (by go_grown) hb5); have iv7 := iv7.next (below_step (by go_grown) hb5); have zw := hbw.size
      have hTmid : timeB mid = true := by unfold timeB; rw [decide_eq_true (by omega), decide_eq_true (by omega)]; rfl
      obtain ⟨ys2, hys2⟩ : ∃ ys2, restOf mid A = ys2 := ⟨_, rfl⟩
      obtain ⟨ds2, hds2⟩ : ∃ ds2, dueOf mid A = ds2 := ⟨_, rfl⟩
      have hW2 : WOk mid ys2 := hys2 ▸ adv_ok hW hTmid
      obtain ⟨ds3, hds3⟩ : ∃ ds3, dueOf m ys2 = ds3 := ⟨_, rfl⟩
      have hys3 : restOf m ys2 = ys := by rw [← hys2, rest_rest hmid.2]; exact HYS.out
      have HDD : Hid (ds2 ++ ds3 = ds) := by
        show ds2 ++ ds3 = ds
        rw [← hds2, ← hds3, ← hys2, due_due hmid.2 hW.order]
        exact HDS.out
      have H11 : Hid (∀ (w : World) (a : Option Addr) (cap : Nat), Smp w.heap.size w a A → A.length ≤ cap → (a = none → cap = 0) → Calls Try.prog 21 #[.agg #[.int .i64 t, .slice a A.length cap], .int .i64 mid] w (AdvPost w mid ys2 ds2)) := by
        rw [← hys2, ← hds2]
        exact fun w a cap h hc hn => implAdvance_yes cap mid h hc hn hW hTmid hmid.1
      have H12 : Hid (∀ (w : World) (a : Option Addr) (cap : Nat), Smp w.heap.size w a ys2 → ys2.length ≤ cap → (a = none → cap = 0) → Calls Try.prog 21 #[.agg #[.int .i64 mid, .slice a ys2.length cap], .int .i64 m] w (AdvPost w T ys ds3)) := by
        rw [← hys3, ← hds3]
        exact fun w a cap h hc hn => HTT.out ▸ implAdvance_yes cap m h hc hn hW2 hTm hmid.2
      have hl2 : ds2.length + ds3.length = ds.length := by rw [← HDD.out, List.length_append]
      have HL2 : Hid (ds2.length + ds3.length = ds.length) := hl2
      clear hys2 hds2 hds3 hys3 hl2
      go_upto_region 12 with (first
        | (go_at_call 21; refine (H11.out _ _ _ ((fv_read fv3).here (by go_grown)) hAc hAn).mono ?_; rintro e vA ⟨a10, n10, c10, e10, m10, d10, rfl, hfv, hiv, hap, hbP⟩; have hbw := below_step (w := w) (by go_grown) hbP; have C : Hid (Cells vA [(b3, 0, .int .i64 t), (b3, 1, .slice a3 A.length c3), (b5, 0, .int .i64 T), (b5, 1, .slice a5 n5 c5), (b7, 0, .int .i64 T), (b7, 1, .slice a7 n7 c7)]) := C.out.next (below_step (by go_grown) hbP); have ⟨⟨kz0, k0⟩, ⟨kz1, k1⟩, ⟨kz2, k2⟩, ⟨kz3, k3⟩, ⟨kz4, k4⟩, ⟨kz5, k5⟩, _⟩ := C.out; have fv3 := fv3.next (below_step (by go_grown) hbP); have fv5 := fv5.next (below_step (by go_grown) hbP); have iv5 := iv5.next (below_step (by go_grown) hbP); have fv7 := fv7.next (below_step (by go_grown) hbP); have iv7 := iv7.next (below_step (by go_grown) hbP); have zw := hbw.size))
      obtain ⟨rfl, _, hc10, hn10⟩ := fv_parts hfv
      obtain ⟨v6, hv⟩ : ∃ v, v = vA.alloc (.cells #[.int .i64 mid, .slice a10 ys2.length c10] 36) := ⟨_, rfl⟩
      rw [← hv]
      have hbA : Below vA.heap.size vA v6 := by rw [hv]; exact new_below _ _
      have cA0 : v6.cell? ⟨vA.heap.size, 0, none⟩ = some (.int .i64 mid) := by rw [hv]; go_simp
      have cA1 : v6.cell? ⟨vA.heap.size, 1, none⟩ = some (.slice a10 ys2.length c10) := by rw [hv]; go_simp
      have zA : vA.heap.size < v6.heap.size := by rw [hv]; simp
      clear hv
      obtain ⟨b10, hb10⟩ : ∃ b, b = vA.heap.size := ⟨_, rfl⟩
      rw [← hb10] at cA0 cA1 ⊢
      have yb10 : b10 < v6.heap.size := by omega
      clear hb10
      have hbw := below_step hbw hbA
      have C : Hid (Cells v6 [(b3, 0, .int .i64 t), (b3, 1, .slice a3 A.length c3), (b5, 0, .int .i64 T), (b5, 1, .slice a5 n5 c5), (b7, 0, .int .i64 T), (b7, 1, .slice a7 n7 c7), (b10, 0, .int .i64 mid), (b10, 1, .slice a10 ys2.length c10)]) := by
        obtain ⟨c0, c1, c2, c3, c4, c5, _⟩ := C.out.next hbA
        exact ⟨c0, c1, c2, c3, c4, c5, ⟨yb10, cA0⟩, ⟨yb10, cA1⟩, trivial⟩
      have ⟨⟨kz0, k0⟩, ⟨kz1, k1⟩, ⟨kz2, k2⟩, ⟨kz3, k3⟩, ⟨kz4, k4⟩, ⟨kz5, k5⟩, ⟨kz6, k6⟩, ⟨kz7, k7⟩, _⟩ := C.out
      have fv3 := fv3.next hbA
      have fv5 := fv5.next hbA
      have iv5 := iv5.next hbA
      have fv7 := fv7.next hbA
      have iv7 := iv7.next hbA
      have zw := hbw.size
      have fv10 := hfv.next hbA
      have iv10 := hiv.next hbA
      clear hfv hiv hap
      go_upto_region 13 with (first
        | (go_at_call 21; refine (H12.out _ _ _ ((fv_read fv10).here (by go_grown)) hc10 hn10).mono ?_; rintro e vD ⟨a12, n12, c12, e12, m12, d12, rfl, hfv, hiv, hap, hbP⟩; have hbw := below_step (w := w) (by go_grown) hbP; have C : Hid (Cells vD [(b3, 0, .int .i64 t), (b3, 1, .slice a3 A.length c3), (b5, 0, .int .i64 T), (b5, 1, .slice a5 n5 c5), (b7, 0, .int .i64 T), (b7, 1, .slice a7 n7 c7), (b10, 0, .int .i64 mid), (b10, 1, .slice a10 ys2.length c10)]) := C.out.next (below_step (by go_grown) hbP); have ⟨⟨kz0, k0⟩, ⟨kz1, k1⟩, ⟨kz2, k2⟩, ⟨kz3, k3⟩, ⟨kz4, k4⟩, ⟨kz5, k5⟩, ⟨kz6, k6⟩, ⟨kz7, k7⟩, _⟩ := C.out; have fv3 := fv3.next (below_step (by go_grown) hbP); have fv5 := fv5.next (below_step (by go_grown) hbP); have iv5 := iv5.next (below_step (by go_grown) hbP); have fv7 := fv7.next (below_step (by go_grown) hbP); have iv7 := iv7.next (below_step (by go_grown) hbP); have fv10 := fv10.next (below_step (by go_grown) hbP); have iv10 := iv10.next (below_step (by go_grown) hbP); have zw := hbw.size))
      obtain ⟨v7, hv⟩ : ∃ v, v = vD.alloc (.cells #[.int .i64 T, .slice a12 n12 c12] 36) := ⟨_, rfl⟩
      rw [← hv]
      have hbA : Below vD.heap.size vD v7 := by rw [hv]; exact new_below _ _
      have cA0 : v7.cell? ⟨vD.heap.size, 0, none⟩ = some (.int .i64 T) := by rw [hv]; go_simp
      have cA1 : v7.cell? ⟨vD.heap.size, 1, none⟩ = some (.slice a12 n12 c12) := by rw [hv]; go_simp
      have zA : vD.heap.size < v7.heap.size := by rw [hv]; simp
      clear hv
      obtain ⟨b12, hb12⟩ : ∃ b, b = vD.heap.size := ⟨_, rfl⟩
      rw [← hb12] at cA0 cA1 ⊢
      have yb12 : b12 < v7.heap.size := by omega
      clear hb12
      have hbw := below_step hbw hbA
      have C : Hid (Cells v7 [(b3, 0, .int .i64 t), (b3, 1, .slice a3 A.length c3), (b5, 0, .int .i64 T), (b5, 1, .slice a5 n5 c5), (b7, 0, .int .i64 T), (b7, 1, .slice a7 n7 c7), (b10, 0, .int .i64 mid), (b10, 1, .slice a10 ys2.length c10), (b12, 0, .int .i64 T), (b12, 1, .slice a12 n12 c12)]) := by
        obtain ⟨c0, c1, c2, c3, c4, c5, c6, c7, _⟩ := C.out.next hbA
        exact ⟨c0, c1, c2, c3, c4, c5, c6, c7, ⟨yb12, cA0⟩, ⟨yb12, cA1⟩, trivial⟩
      have ⟨⟨kz0, k0⟩, ⟨kz1, k1⟩, ⟨kz2, k2⟩, ⟨kz3, k3⟩, ⟨kz4, k4⟩, ⟨kz5, k5⟩, ⟨kz6, k6⟩, ⟨kz7, k7⟩, ⟨kz8, k8⟩, ⟨kz9, k9⟩, _⟩ := C.out
      have fv3 := fv3.next hbA
      have fv5 := fv5.next hbA
      have iv5 := iv5.next hbA
      have fv7 := fv7.next hbA
      have iv7 := iv7.next hbA
      have fv10 := fv10.next hbA
      have iv10 := iv10.next hbA
      have zw := hbw.size
      have fv12 := hfv.next hbA
      have iv12 := hiv.next hbA
      clear hfv hiv hap
      have hlen : ((ds.length : Int) + (n5 : Int) == (A.length : Int)) = true := by have h1 := HSUM.out; have h2 := HN5.out; simp; omega
      have elen : IntKind.i64.wrap ((ds.length : Int) + (n5 : Int)) = (ds.length : Int) + (n5 : Int) := by have h2 := HN5.out; rw [IntKind.wrap_i64]; omega
      go_wp2_with (first
        | (go_at_call 19; refine (likeW_same T fv12 fv5 (by omega)).mono ?_; rintro e vM ⟨rfl, hbE⟩; have hbw := below_step (w := w) (by go_grown) hbE; have C : Hid (Cells vM [(b3, 0, .int .i64 t), (b3, 1, .slice a3 A.length c3), (b5, 0, .int .i64 T), (b5, 1, .slice a5 n5 c5), (b7, 0, .int .i64 T), (b7, 1, .slice a7 n7 c7), (b10, 0, .int .i64 mid), (b10, 1, .slice a10 ys2.length c10), (b12, 0, .int .i64 T), (b12, 1, .slice a12 n12 c12)]) := C.out.next (below_step (by go_grown) hbE); have ⟨⟨kz0, k0⟩, ⟨kz1, k1⟩, ⟨kz2, k2⟩, ⟨kz3, k3⟩, ⟨kz4, k4⟩, ⟨kz5, k5⟩, ⟨kz6, k6⟩, ⟨kz7, k7⟩, ⟨kz8, k8⟩, ⟨kz9, k9⟩, _⟩ := C.out; have fv3 := fv3.next (below_step (by go_grown) hbE); have fv5 := fv5.next (below_step (by go_grown) hbE); have iv5 := iv5.next (below_step (by go_grown) hbE); have fv7 := fv7.next (below_step (by go_grown) hbE); have iv7 := iv7.next (below_step (by go_grown) hbE); have fv10 := fv10.next (below_step (by go_grown) hbE); have iv10 := iv10.next (below_step (by go_grown) hbE); have fv12 := fv12.next (below_step (by go_grown) hbE); have iv12 := iv12.next (below_step (by go_grown) hbE); have zw := hbw.size; have yy := hbE.size)
        | (at_builtin; have g9 := ap1; refine wpList_append_ints (by rfl) _ _ 43 rfl vM.heap.size 2 j0 _ Try.underlying43 hj jz0 jz1 jz2 rfl _ _ _ rfl hown1 _ _ ds3 rfl iv12 (by have := HL2.out; omega) (by omega) ?_; intro v2 wy hown2 hgr2; have oY := OnlyO.of_grown hgr2; have uY : ∀ g, v1.ownBlock = some g → vM.heap.size ≤ g := fun g hg => (hown1.lt g hg).1; have ivA := app_iv hown2; have iv5 := iv5.onlyO oY (fun g hg e => by have := u5 g hg; have := uY g e; omega); have C : Hid (Cells wy [(b3, 0, .int .i64 t), (b3, 1, .slice a3 A.length c3), (b5, 0, .int .i64 T), (b5, 1, .slice a5 n5 c5), (b7, 0, .int .i64 T), (b7, 1, .slice a7 n7 c7), (b10, 0, .int .i64 mid), (b10, 1, .slice a10 ys2.length c10), (b12, 0, .int .i64 T), (b12, 1, .slice a12 n12 c12)]) := Cells.onlyO oY (by intro c hc e; simp only [List.mem_cons, List.not_mem_nil, or_false] at hc; have u := uY _ e; rcases hc with rfl | rfl | rfl | rfl | rfl | rfl | rfl | rfl | rfl | rfl <;> (simp only at u; omega)) C.out; have ⟨⟨kz0, k0⟩, ⟨kz1, k1⟩, ⟨kz2, k2⟩, ⟨kz3, k3⟩, ⟨kz4, k4⟩, ⟨kz5, k5⟩, ⟨kz6, k6⟩, ⟨kz7, k7⟩, ⟨kz8, k8⟩, ⟨kz9, k9⟩, _⟩ := C.out; have hbw := hbw.trans (oY.below (fun g hg => by have := uY g hg; omega) (by omega)); have zY := oY.size; have ap2 := hown2)
        | (at_builtin; refine wpList_append_ints (by rfl) _ _ 43 rfl vM.heap.size 2 j0 _ Try.underlying43 hj jz0 jz1 jz2 rfl _ 0 [] rfl (own_none1 vM vM.heap.size _ rfl (Nat.le_refl _) _) _ _ ds2 rfl (iv10.next (new_below _ _)) (by have := HL2.out; omega) (by simp) ?_; intro v1 wx hown1 hgr1; have oX := OnlyO.of_grown hgr1; have uX : ∀ g, some vM.heap.size = some g → vM.heap.size ≤ g := fun g hg => Nat.le_of_eq (Option.some.inj hg); have u12 : ∀ g, (Value.slice e12 m12 d12).ownBlock = some g → g < vM.heap.size := fun g hg => (iv12.own hg).2; have u5 : ∀ g, (Value.slice e5 ds.length d5).ownBlock = some g → g < vM.heap.size := fun g hg => (iv5.own hg).2; have iv12 := (iv12.next (new_below _ _)).onlyO oX (fun g hg e => by have := u12 g hg; have := uX g e; omega); have iv5 := (iv5.next (new_below _ _)).onlyO oX (fun g hg e => by have := u5 g hg; have := uX g e; omega); have C : Hid (Cells wx [(b3, 0, .int .i64 t), (b3, 1, .slice a3 A.length c3), (b5, 0, .int .i64 T), (b5, 1, .slice a5 n5 c5), (b7, 0, .int .i64 T), (b7, 1, .slice a7 n7 c7), (b10, 0, .int .i64 mid), (b10, 1, .slice a10 ys2.length c10), (b12, 0, .int .i64 T), (b12, 1, .slice a12 n12 c12)]) := Cells.onlyO oX (by intro c hc e; simp only [List.mem_cons, List.not_mem_nil, or_false] at hc; have u := uX _ e; rcases hc with rfl | rfl | rfl | rfl | rfl | rfl | rfl | rfl | rfl | rfl <;> (simp only at u; omega)) (C.out.next (new_below _ _)); have ⟨⟨kz0, k0⟩, ⟨kz1, k1⟩, ⟨kz2, k2⟩, ⟨kz3, k3⟩, ⟨kz4, k4⟩, ⟨kz5, k5⟩, ⟨kz6, k6⟩, ⟨kz7, k7⟩, ⟨kz8, k8⟩, ⟨kz9, k9⟩, _⟩ := C.out; have hbw := (below_step hbw (new_below _ (.cells #[] 2))).trans (oX.below (fun g hg => by have := uX g hg; omega) (by simp; omega)); have zX := oX.size; (try simp at zX); have ap1 := hown1)
        | (go_at_call 25; refine (likeI_any ivA iv5 (by have := HL2.out; rw [List.length_append]; omega)).mono ?_; rintro e vZ ⟨rfl, hbE⟩; rw [show decide (ds2 ++ ds3 = ds) = true from decide_eq_true HDD.out]; have hbw := below_step (w := w) (by go_grown) hbE; have C : Hid (Cells vZ [(b3, 0, .int .i64 t), (b3, 1, .slice a3 A.length c3), (b5, 0, .int .i64 T), (b5, 1, .slice a5 n5 c5), (b7, 0, .int .i64 T), (b7, 1, .slice a7 n7 c7), (b10, 0, .int .i64 mid), (b10, 1, .slice a10 ys2.length c10), (b12, 0, .int .i64 T), (b12, 1, .slice a12 n12 c12)]) := C.out.next (below_step (by go_grown) hbE); have ⟨⟨kz0, k0⟩, ⟨kz1, k1⟩, ⟨kz2, k2⟩, ⟨kz3, k3⟩, ⟨kz4, k4⟩, ⟨kz5, k5⟩, ⟨kz6, k6⟩, ⟨kz7, k7⟩, ⟨kz8, k8⟩, ⟨kz9, k9⟩, _⟩ := C.out; have zw := hbw.size))
      go_ret
      exact ⟨rfl, hbw⟩
  · have hbig : (4096 : Int) < (len0 : Int) := by omega
    go_enter Try.func5, Try.ntmps5
    go_wp2
    go_ret
    exact ⟨rfl, Below.refl _ _⟩

/-! ### THE ROW's STEP: WRITTEN OUT: LEAVE IT -/
set_option maxRecDepth 100000 in
theorem lifted (os : Os) (started : os.Started) (H : Type) (enc : TypeId × Value → H) :
    ReturnsInHanded {} Try.checked os 5 .any (Rows.fnAdvancedSpec.pre6 enc Try.prog Try.f5 Rows.fnAdvancedRow.domain false) (Rows.fnAdvancedSpec.post enc Try.prog Try.f5 false true false false) := by
  refine returnsInHanded_of_change (C := Try.checked) own started (by kernel_rfl) Try.func5
    (ChangeSpec.witness6 (enc := enc) (C := Try.checked) false ⟨#[], #[.slice none 0 0], []⟩ 8 (by kernel_rfl) (by kernel_rfl) (by kernel_rfl) (by kernel_rfl)) ?_
  intro W base args ds gs before hval0 hW hcnd _
  have hval : ∀ (j : Nat) t v, Try.f5.params[j]? = some t → args[j]? = some v → Value.okWide Try.prog W .any base t v := hval0
  have hW' := hW
  obtain ⟨p, q, hA0, hV, rfl, hfz, hnd⟩ := hW
  have hA : DataW.TrodAll enc Try.prog W 0 (fun _ => true) true Try.f5.params.toList args.toList ds p := hA0
  rw [Try.params5] at hA hval
  obtain ⟨v0, vs0, d0, ds0, p0, q0, hargs, rfl, rfl, h0, r0⟩ := trodAll_cons hA
  obtain ⟨rfl, rfl, rfl⟩ := trodAll_nil r0
  obtain rfl : args = #[v0] := by cases args; simp_all
  obtain ⟨rfl, rfl⟩ := trodVars_none hV
  obtain ⟨a0, len0, cap0, rfl⟩ := okWide_slice Try.underlying22 (hval 0 22 v0 rfl rfl)
  have k0 := h0
  have lt0 : ∀ x ∈ p0, x.block < W.heap.size := by obtain ⟨m, hm⟩ := k0; exact DataW.trod_lt m _ _ _ hm
  obtain ⟨z0, w0⟩ : ∃ zs, IsRow .u8 W a0 len0 cap0 zs := by
    obtain ⟨fuel, hf⟩ := h0
    rcases open_ints Try.underlying22 Try.underlying5 (by kernel_rfl) hf with ⟨hcs, _⟩ | ⟨x, l, c, zs, hcs, _, hl, hm, hz, _, hcell, hwz⟩
    · simp [Value.cells] at hcs
      obtain ⟨rfl, rfl, rfl⟩ := hcs
      exact ⟨[], .inl ⟨rfl, rfl, rfl, rfl⟩⟩
    · simp [Value.cells] at hcs
      obtain ⟨rfl, rfl, rfl⟩ := hcs
      exact ⟨zs, .inr ⟨_, rfl, hl, hm, by simpa using hz, hcell, hwz⟩⟩
  clear hA0 hval0
  refine (walk a0 len0 cap0 z0 W w0).mono fun e W' ⟨he, bel⟩ => ?_
  subst he
  exact ⟨_, rfl, _, _, _, [], _, [], hW', trodAll_mk1 (shut_bool Try.underlying4 _), (trodAll_cons_mk (Below.trod laidOut (by kernel_rfl) (of_decide_eq_true (by kernel_rfl)) k0 bel lt0) trodAll_mk0), rfl, bel.frame _, fun h => by cases h⟩

theorem over : Rows.fnAdvancedRow.holds Try.pinned (OpenSpec.ofChange Rows.fnAdvancedSpec) :=
  OpenClaim.holds_of_wide 5 Try.f5 rfl rfl rfl rfl rfl rfl rfl ⟨rfl, rfl, rfl, rfl, rfl⟩ rfl rfl rfl rfl rfl (by kernel_rfl) Try.func5 (by kernel_rfl)
    (of_decide_eq_true (by kernel_rfl)) (by unfold Func.isWrapper; first | (rw [if_pos (by decide +kernel)]; kernel_rfl) | (rw [if_neg (by decide +kernel)]; exact ⟨rfl, rfl⟩))
    (fun os started H enc _ => lifted os started H enc)

/-- ████ THE STATEMENT ████ -/
theorem proved : Rows.FnAdvancedSaid := over
#print axioms proved
end Go.Proofs.Ytcmgaaopkhjelac.fnAdvanced
namespace Go.Proofs.Ytcmgaaopkhjelac
theorem fnAdvanced_holds : Rows.FnAdvancedSaid := fnAdvanced.proved
#print axioms fnAdvanced_holds
end Go.Proofs.Ytcmgaaopkhjelac
