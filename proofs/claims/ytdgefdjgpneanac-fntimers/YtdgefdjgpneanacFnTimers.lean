/- Proved: whatever the bytes, the law FnTimers returns true (at the wheel, the number and the time that the model draws of them impl.Arm answers as spec's does; what is refused is the zero wheel; a timer that was armed fires once when its time has come, not a nanosecond ahead of it, not again, and not if it was cancelled; and the wheels stay right), and the bytes read as before; no condition. -/
import Derived.Test.YtdgefdjgpneanacRows
import Derived.WalkKit
import Derived.ProofKit
import Derived.OpenShut
import Derived.ShutString
import Derived.ChangeOld
import Derived.Below
import Derived.Test.YtdgefdjgpneanacWheelBoth
import Derived.Test.YtdgefdjgpneanacLikeW
import Derived.Test.YtdgefdjgpneanacTimMath
import Derived.Test.YtdgefdjgpneanacDrawArm
import Derived.Deep.RegionHeld3
import Derived.Deep.DeepCutAuto
namespace Go.Proofs.Ytdgefdjgpneanac.fnTimers
open Go.ChangeShapes Go.WideShapes Go.ChangeAt Go.RowKit
open Go.ChangeMaps (open_string shut_string)
set_option linter.unusedVariables false

theorem own : ownKnob Try.prog.godebug = none := by kernel_rfl
theorem laidOut : laidOutB Try.prog = true := by kernel_rfl

/-- WHAT THE WALK IS TOLD OF A SLICE OF INTEGERS THAT CAME IN: it is nil; or it leads to a row of 'cap' cells, the numbers 'zs' (the first 'len' are its elements, the rest its spare room), each fitting its kind. -/
def IsRow (k : IntKind) (w : World) (a : Option Addr) (len cap : Nat) (zs : List Int) : Prop :=
  (a = none ∧ len = 0 ∧ cap = 0 ∧ zs = []) ∨
  ∃ x, a = some x ∧ len ≤ cap ∧ cap ≤ maxLen ∧ zs.length = cap ∧ (∀ i, i < zs.length → w.cell? (x.add i) = some (.int k (zs.getD i 0))) ∧ ∀ n ∈ zs, (Lit.int k n).wf = true

set_option linter.unusedSimpArgs false
set_option maxRecDepth 100000
theorem row_of {w : World} {a : Option Addr} {len cap : Nat} {zs : List Int} (h : IsRow .u8 w a len cap zs) : Row w.heap.size a len w := by
  intro i hi
  rcases h with ⟨rfl, rfl, rfl, rfl⟩ | ⟨x, rfl, hl, hm, hz, hcell, hwz⟩
  · omega
  · obtain ⟨b, off, spot⟩ := x
    have hspot : spot = none := by simpa [Addr.add] using World.cell?_spot (hcell 0 (by omega))
    subst hspot
    have hc := hcell i (by omega)
    have hc' : w.cell? ⟨b, off + i, none⟩ = some (.int .u8 (zs.getD i 0)) := by
      by_cases h0 : i = 0
      · subst h0; simpa [Addr.add] using hc
      · simpa [Addr.add, h0] using hc
    have hlt : i < zs.length := by omega
    have hm : zs.getD i 0 ∈ zs := by simp [List.getD, List.getElem?_eq_getElem hlt]
    obtain ⟨z0, z1⟩ := bounds_u8 (hwz _ hm)
    exact ⟨b, off, zs.getD i 0, rfl, World.block_lt_of_cell? w _ hc', hc', z0, z1⟩
theorem time_ok {x : Int} (h : timeB x = true) : 0 ≤ x ∧ x ≤ 1000000000000000 := by simpa [timeB] using h
theorem fv_parts {w : World} {lo n c : Nat} {a : Option Addr} {ys : List (Int × Int)} (h : FW w lo (.slice a n c) ys) : n = ys.length ∧ Smp w.heap.size w a ys ∧ ys.length ≤ c ∧ (a = none → c = 0) := by
  rcases h with ⟨g, cap, e, h1, h2, f, hc⟩ | ⟨⟨a0, e⟩, rfl⟩
  · injection e with e1 e2 e3
    subst e1 e2 e3
    exact ⟨rfl, f.smp h2, hc, fun k => by cases k⟩
  · injection e with e1 e2 e3
    subst e1 e2 e3
    exact ⟨rfl, (fun i h => by cases h), Nat.le_refl _, fun _ => rfl⟩
theorem fv_read {w : World} {lo c : Nat} {a : Option Addr} {ys : List (Int × Int)} (h : FW w lo (.slice a ys.length c) ys) : Smp w.heap.size w a ys := (fv_parts h).2.1
theorem iv_length {w : World} {lo m d : Nat} {e : Option Addr} {ds : List Int} (h : IV w lo (.slice e m d) ds) : m = ds.length := by
  obtain ⟨a, c, k, _⟩ := h.smp
  injection k with _ k _
theorem iv_smp {w : World} {lo n c : Nat} {a : Option Addr} {xs : List Int} (h : IV w lo (.slice a n c) xs) : ISmp w.heap.size w a xs := by
  obtain ⟨a', c', e, k⟩ := h.smp
  injection e with e1 e2 e3
  subst e1
  exact k

/-! ### STEP 1: THE WALK: the Go text returns true, AND WRITES NOTHING THAT WAS THERE: 'Below w.heap.size w w'' (Derived/Below.lean: '.refl', '.alloc', '.drew', '.setCell' at a new block, '.trans'). Open each 'IsRow' by 'rcases' AHEAD of 'go_enter'; part every test ahead of the walk. -/
set_option maxHeartbeats 32000000 in
theorem walk (a0 : Option Addr) (len0 cap0 : Nat) (z0 : List Int) (w : World) (w0 : IsRow .u8 w a0 len0 cap0 z0) :
    Calls Try.prog 4 #[.slice a0 len0 cap0] w fun e w' => e = .returned (.bool true) ∧ Below w.heap.size w w' := by
  have row := row_of w0
  by_cases hs : len0 ≤ 4096
  · go_enter Try.func4, Try.ntmps4
    go_upto_region 4 with (first
      | (go_at_call 18; refine (drawArm_any cap0 hs row (Nat.le_refl _)).mono ?_; rintro e w1 ⟨t, a3, n3, c3, X, id, m, rfl, hfv, hX, hbw⟩; obtain ⟨rfl, _, hXc, hXn⟩ := fv_parts hfv)
      | go_in)
    have C : Hid (Cells w1 []) := trivial
    obtain ⟨va, hv⟩ : ∃ v, v = w1.alloc (.cells #[.int .i64 t, .slice a3 X.length c3] 36) := ⟨_, rfl⟩
    rw [← hv]
    have hbA : Below w1.heap.size w1 va := by rw [hv]; exact new_below _ _
    have cA0 : va.cell? ⟨w1.heap.size, 0, none⟩ = some (.int .i64 t) := by rw [hv]; go_simp
    have cA1 : va.cell? ⟨w1.heap.size, 1, none⟩ = some (.slice a3 X.length c3) := by rw [hv]; go_simp
    have zA : w1.heap.size < va.heap.size := by rw [hv]; simp
    clear hv
    obtain ⟨b3, hb3⟩ : ∃ b, b = w1.heap.size := ⟨_, rfl⟩
    rw [← hb3] at cA0 cA1 ⊢
    have yb3 : b3 < va.heap.size := by omega
    clear hb3
    have hbw := below_step hbw hbA
    have C : Hid (Cells va [(b3, 0, .int .i64 t), (b3, 1, .slice a3 X.length c3)]) := by
      obtain ⟨_⟩ := C.out.next hbA
      exact ⟨⟨yb3, cA0⟩, ⟨yb3, cA1⟩, trivial⟩
    have ⟨⟨kz0, k0⟩, ⟨kz1, k1⟩, _⟩ := C.out
    have zw := hbw.size
    have fv3 := hfv.next hbA
    clear hfv
    have hX63 : (X.length : Int) ≤ 9223372036854775807 := by omega
    by_cases good : WOk t X ∧ armOk t id m = true ∧ (withoutOf id X).length ≠ 200
    rotate_left
    · skip
      obtain ⟨T, hT0⟩ : ∃ T : Int, T = 0 := ⟨_, rfl⟩
      obtain ⟨ys, hys0⟩ : ∃ ys : List (Int × Int), ys = [] := ⟨_, rfl⟩
      have HIM : Hid (∀ (w : World) (a : Option Addr) (cap : Nat), Smp w.heap.size w a X → X.length ≤ cap → (a = none → cap = 0) → Calls Try.prog 19 #[.agg #[.int .i64 t, .slice a X.length cap], .int .i64 id, .int .i64 m] w (WheelPost w T ys false)) := by
        rw [hT0, hys0]
        exact fun w a cap h hc hn => implArm_no cap id m h hc hn hX63 good
      have HSP : Hid (∀ (w : World) (a : Option Addr) (cap : Nat), Smp w.heap.size w a X → Calls Try.prog 20 #[.agg #[.int .i64 t, .slice a X.length cap], .int .i64 id, .int .i64 m] w (WheelPost w T ys false)) := by
        rw [hT0, hys0]
        exact fun w a cap h => specArm_no cap id m h hX63 good
      have HL2 : Hid (∀ (w : World) (lo : Nat) (v : Value), FW w lo v ys → Calls Try.prog 21 #[.agg #[.int .i64 T, v], .agg #[.int .i64 0, .slice none 0 0]] w fun e w' => e = .returned (.bool true) ∧ Below w.heap.size w w') := by
        rw [hT0, hys0]
        exact fun w lo v h => likeW_same 0 h (FW.zero w w.heap.size none) (by simp)
      have hyl : ys.length ≤ 200 := by rw [hys0]; simp
      clear hT0 hys0 good
      go_upto_region 5 with (first
        | (go_at_call 19; refine (HIM.out _ _ _ ((fv_read fv3).here (by go_grown)) hXc hXn).mono ?_; rintro e vI ⟨a6, n6, c6, rfl, hfv, hbP⟩; have hbw := below_step (w := w) (by go_grown) hbP; have C : Hid (Cells vI [(b3, 0, .int .i64 t), (b3, 1, .slice a3 X.length c3)]) := C.out.next (below_step (by go_grown) hbP); have ⟨⟨kz0, k0⟩, ⟨kz1, k1⟩, _⟩ := C.out; have fv3 := fv3.next (below_step (by go_grown) hbP); have zw := hbw.size))
      obtain ⟨v6, hv⟩ : ∃ v, v = vI.alloc (.cells #[.int .i64 T, .slice a6 n6 c6] 36) := ⟨_, rfl⟩
      rw [← hv]
      have hbA : Below vI.heap.size vI v6 := by rw [hv]; exact new_below _ _
      have cA0 : v6.cell? ⟨vI.heap.size, 0, none⟩ = some (.int .i64 T) := by rw [hv]; go_simp
      have cA1 : v6.cell? ⟨vI.heap.size, 1, none⟩ = some (.slice a6 n6 c6) := by rw [hv]; go_simp
      have zA : vI.heap.size < v6.heap.size := by rw [hv]; simp
      clear hv
      obtain ⟨b6, hb6⟩ : ∃ b, b = vI.heap.size := ⟨_, rfl⟩
      rw [← hb6] at cA0 cA1 ⊢
      have yb6 : b6 < v6.heap.size := by omega
      clear hb6
      have hbw := below_step hbw hbA
      have C : Hid (Cells v6 [(b3, 0, .int .i64 t), (b3, 1, .slice a3 X.length c3), (b6, 0, .int .i64 T), (b6, 1, .slice a6 n6 c6)]) := by
        obtain ⟨c0, c1, _⟩ := C.out.next hbA
        exact ⟨c0, c1, ⟨yb6, cA0⟩, ⟨yb6, cA1⟩, trivial⟩
      have ⟨⟨kz0, k0⟩, ⟨kz1, k1⟩, ⟨kz2, k2⟩, ⟨kz3, k3⟩, _⟩ := C.out
      have fv3 := fv3.next hbA
      have zw := hbw.size
      have fv6 := hfv.next hbA
      clear hfv
      go_upto_region 6 with (first
        | (go_at_call 20; refine (HSP.out _ _ _ ((fv_read fv3).here (by go_grown))).mono ?_; rintro e vS ⟨a8, n8, c8, rfl, hfv, hbP⟩; have hbw := below_step (w := w) (by go_grown) hbP; have C : Hid (Cells vS [(b3, 0, .int .i64 t), (b3, 1, .slice a3 X.length c3), (b6, 0, .int .i64 T), (b6, 1, .slice a6 n6 c6)]) := C.out.next (below_step (by go_grown) hbP); have ⟨⟨kz0, k0⟩, ⟨kz1, k1⟩, ⟨kz2, k2⟩, ⟨kz3, k3⟩, _⟩ := C.out; have fv3 := fv3.next (below_step (by go_grown) hbP); have fv6 := fv6.next (below_step (by go_grown) hbP); have zw := hbw.size))
      obtain ⟨v8, hv⟩ : ∃ v, v = vS.alloc (.cells #[.int .i64 T, .slice a8 n8 c8] 36) := ⟨_, rfl⟩
      rw [← hv]
      have hbA : Below vS.heap.size vS v8 := by rw [hv]; exact new_below _ _
      have cA0 : v8.cell? ⟨vS.heap.size, 0, none⟩ = some (.int .i64 T) := by rw [hv]; go_simp
      have cA1 : v8.cell? ⟨vS.heap.size, 1, none⟩ = some (.slice a8 n8 c8) := by rw [hv]; go_simp
      have zA : vS.heap.size < v8.heap.size := by rw [hv]; simp
      clear hv
      obtain ⟨b8, hb8⟩ : ∃ b, b = vS.heap.size := ⟨_, rfl⟩
      rw [← hb8] at cA0 cA1 ⊢
      have yb8 : b8 < v8.heap.size := by omega
      clear hb8
      have hbw := below_step hbw hbA
      have C : Hid (Cells v8 [(b3, 0, .int .i64 t), (b3, 1, .slice a3 X.length c3), (b6, 0, .int .i64 T), (b6, 1, .slice a6 n6 c6), (b8, 0, .int .i64 T), (b8, 1, .slice a8 n8 c8)]) := by
        obtain ⟨c0, c1, c2, c3, _⟩ := C.out.next hbA
        exact ⟨c0, c1, c2, c3, ⟨yb8, cA0⟩, ⟨yb8, cA1⟩, trivial⟩
      have ⟨⟨kz0, k0⟩, ⟨kz1, k1⟩, ⟨kz2, k2⟩, ⟨kz3, k3⟩, ⟨kz4, k4⟩, ⟨kz5, k5⟩, _⟩ := C.out
      have fv3 := fv3.next hbA
      have fv6 := fv6.next hbA
      have zw := hbw.size
      have fv8 := hfv.next hbA
      clear hfv
      go_wp2_with (first
        | (go_at_call 21; have g0 := dL; refine (HL2.out _ _ _ (fv6.next (by go_grown))).mono ?_; rintro e vM ⟨rfl, hbM⟩; have hbw := below_step (w := w) (by go_grown) hbM)
        | (go_at_call 21; refine (likeW_same T (fv6.next (by go_grown)) (fv8.next (by go_grown)) (by omega)).mono ?_; rintro e vL ⟨rfl, hbE⟩; have dL : True := trivial; have hbw := below_step (w := w) (by go_grown) hbE; have C : Hid (Cells vL [(b3, 0, .int .i64 t), (b3, 1, .slice a3 X.length c3), (b6, 0, .int .i64 T), (b6, 1, .slice a6 n6 c6), (b8, 0, .int .i64 T), (b8, 1, .slice a8 n8 c8)]) := C.out.next (below_step (by go_grown) hbE); have ⟨⟨kz0, k0⟩, ⟨kz1, k1⟩, ⟨kz2, k2⟩, ⟨kz3, k3⟩, ⟨kz4, k4⟩, ⟨kz5, k5⟩, _⟩ := C.out; have fv3 := fv3.next (below_step (by go_grown) hbE); have fv6 := fv6.next (below_step (by go_grown) hbE); have fv8 := fv8.next (below_step (by go_grown) hbE); have zw := hbw.size))
      go_ret
      exact ⟨rfl, hbw⟩
    · skip
      obtain ⟨gW, gA, gF⟩ := good
      obtain ⟨A, hA⟩ : ∃ A, insOf (withoutOf id X) (id, m) = A := ⟨_, rfl⟩
      have HA : Hid (Armed t id m A) := by rw [← hA]; exact armed gW gA gF
      have gA' := gA
      unfold armOk at gA'
      rw [Bool.and_eq_true, Bool.and_eq_true] at gA'
      obtain ⟨⟨gI, gT⟩, gN⟩ := gA'
      have HIM : Hid (∀ (w : World) (a : Option Addr) (cap : Nat), Smp w.heap.size w a X → X.length ≤ cap → (a = none → cap = 0) → Calls Try.prog 19 #[.agg #[.int .i64 t, .slice a X.length cap], .int .i64 id, .int .i64 m] w (WheelPost w t A true)) := by
        rw [← hA]
        exact fun w a cap h hc hn => implArm_yes cap id m h hc hn gW gA gF
      have HSP : Hid (∀ (w : World) (a : Option Addr) (cap : Nat), Smp w.heap.size w a X → Calls Try.prog 20 #[.agg #[.int .i64 t, .slice a X.length cap], .int .i64 id, .int .i64 m] w (WheelPost w t A true)) := by
        rw [← hA]
        exact fun w a cap h => specArm_yes cap id m h gW gI gT (of_decide_eq_true gN) gF
      obtain ⟨W, hWq⟩ : ∃ W, withoutOf id A = W := ⟨_, rfl⟩
      obtain ⟨D, hDq⟩ : ∃ D, restOf m A = D := ⟨_, rfl⟩
      obtain ⟨du, hdu⟩ : ∃ D, dueOf m A = D := ⟨_, rfl⟩
      obtain ⟨S, hSq⟩ : ∃ D, restOf (m - 1) A = D := ⟨_, rfl⟩
      obtain ⟨so, hso⟩ : ∃ D, dueOf (m - 1) A = D := ⟨_, rfl⟩
      obtain ⟨G, hGq⟩ : ∃ G, restOf 1000000000000000 D = G := ⟨_, rfl⟩
      obtain ⟨ag, hag⟩ : ∃ G, dueOf 1000000000000000 D = G := ⟨_, rfl⟩
      obtain ⟨O, hOq⟩ : ∃ G, restOf 1000000000000000 W = G := ⟨_, rfl⟩
      obtain ⟨of', hof⟩ : ∃ G, dueOf 1000000000000000 W = G := ⟨_, rfl⟩
      have hAl := HA.out.ok.2.1
      have hm0 := HA.out.time.1
      have hm1 := HA.out.time.2
      have htm := HA.out.lt
      have ht0 := time_ok HA.out.ok.1
      have WW : Hid (WOk t W) := by rw [← hWq]; exact HA.out.ok.filter _
      have WD : Hid (WOk m D) := by rw [← hDq]; exact adv_ok HA.out.ok gT
      have hWl : W.length ≤ 200 := WW.out.2.1
      have hDl : D.length ≤ 200 := WD.out.2.1
      have hdul : du.length ≤ 200 := by rw [← hdu, ← due_all]; exact Nat.le_trans (due_le _ _ _) hAl
      have hsol : so.length ≤ 200 := by rw [← hso, ← due_all]; exact Nat.le_trans (due_le _ _ _) hAl
      have hagl : ag.length ≤ 200 := by rw [← hag, ← due_all]; exact Nat.le_trans (due_le _ _ _) hDl
      have hofl : of'.length ≤ 200 := by rw [← hof, ← due_all]; exact Nat.le_trans (due_le _ _ _) hWl
      have H1 : Hid (du.count id = 1) := by rw [← hdu]; exact HA.out.once
      have NS : Hid (id ∉ so) := by rw [← hso]; exact HA.out.soon
      have NG : Hid (id ∉ ag) := by rw [← hag, ← hDq]; exact HA.out.again _
      have NO : Hid (id ∉ of') := by rw [← hof, ← hWq]; exact HA.out.off _
      have hT15 : timeB 1000000000000000 = true := by decide
      have hTm1 : timeB (m - 1) = true := by unfold timeB; rw [decide_eq_true (by omega), decide_eq_true (by omega)]; rfl
      have HC : Hid (∀ (w : World) (a : Option Addr) (cap : Nat), Smp w.heap.size w a A → A.length ≤ cap → (a = none → cap = 0) → Calls Try.prog 22 #[.agg #[.int .i64 t, .slice a A.length cap], .int .i64 id] w (WheelPost w t W true)) := fun w a cap h hc hn => by
        have h' := implCancel_yes cap id h hc hn HA.out.ok
        rw [decide_eq_true HA.out.gone, hWq] at h'
        exact h'
      have HD : Hid (∀ (w : World) (a : Option Addr) (cap : Nat), Smp w.heap.size w a A → A.length ≤ cap → (a = none → cap = 0) → Calls Try.prog 23 #[.agg #[.int .i64 t, .slice a A.length cap], .int .i64 m] w (AdvPost w m D du)) := fun w a cap h hc hn => by
        have h' := implAdvance_yes cap m h hc hn HA.out.ok gT (by omega)
        rw [hDq, hdu] at h'
        exact h'
      have HS : Hid (∀ (w : World) (a : Option Addr) (cap : Nat), Smp w.heap.size w a A → A.length ≤ cap → (a = none → cap = 0) → Calls Try.prog 23 #[.agg #[.int .i64 t, .slice a A.length cap], .int .i64 (m - 1)] w (AdvPost w (m - 1) S so)) := fun w a cap h hc hn => by
        have h' := implAdvance_yes cap (m - 1) h hc hn HA.out.ok hTm1 (by omega)
        rw [hSq, hso] at h'
        exact h'
      have HG : Hid (∀ (w : World) (a : Option Addr) (cap : Nat), Smp w.heap.size w a D → D.length ≤ cap → (a = none → cap = 0) → Calls Try.prog 23 #[.agg #[.int .i64 m, .slice a D.length cap], .int .i64 1000000000000000] w (AdvPost w 1000000000000000 G ag)) := fun w a cap h hc hn => by
        have h' := implAdvance_yes cap 1000000000000000 h hc hn WD.out hT15 (by omega)
        rw [hGq, hag] at h'
        exact h'
      have HO : Hid (∀ (w : World) (a : Option Addr) (cap : Nat), Smp w.heap.size w a W → W.length ≤ cap → (a = none → cap = 0) → Calls Try.prog 23 #[.agg #[.int .i64 t, .slice a W.length cap], .int .i64 1000000000000000] w (AdvPost w 1000000000000000 O of')) := fun w a cap h hc hn => by
        have h' := implAdvance_yes cap 1000000000000000 h hc hn WW.out hT15 (by omega)
        rw [hOq, hof] at h'
        exact h'
      clear hA hWq hDq hdu hSq hso hGq hag hOq hof gW gA gF gI gT gN hT15 hTm1
      go_upto_region 5 with (first
        | (go_at_call 19; refine (HIM.out _ _ _ ((fv_read fv3).here (by go_grown)) hXc hXn).mono ?_; rintro e vI ⟨a6, n6, c6, rfl, hfv, hbP⟩; obtain ⟨rfl, _, h6c, h6n⟩ := fv_parts hfv; have hbw := below_step (w := w) (by go_grown) hbP; have C : Hid (Cells vI [(b3, 0, .int .i64 t), (b3, 1, .slice a3 X.length c3)]) := C.out.next (below_step (by go_grown) hbP); have ⟨⟨kz0, k0⟩, ⟨kz1, k1⟩, _⟩ := C.out; have fv3 := fv3.next (below_step (by go_grown) hbP); have zw := hbw.size))
      obtain ⟨v6, hv⟩ : ∃ v, v = vI.alloc (.cells #[.int .i64 t, .slice a6 A.length c6] 36) := ⟨_, rfl⟩
      rw [← hv]
      have hbA : Below vI.heap.size vI v6 := by rw [hv]; exact new_below _ _
      have cA0 : v6.cell? ⟨vI.heap.size, 0, none⟩ = some (.int .i64 t) := by rw [hv]; go_simp
      have cA1 : v6.cell? ⟨vI.heap.size, 1, none⟩ = some (.slice a6 A.length c6) := by rw [hv]; go_simp
      have zA : vI.heap.size < v6.heap.size := by rw [hv]; simp
      clear hv
      obtain ⟨b6, hb6⟩ : ∃ b, b = vI.heap.size := ⟨_, rfl⟩
      rw [← hb6] at cA0 cA1 ⊢
      have yb6 : b6 < v6.heap.size := by omega
      clear hb6
      have hbw := below_step hbw hbA
      have C : Hid (Cells v6 [(b3, 0, .int .i64 t), (b3, 1, .slice a3 X.length c3), (b6, 0, .int .i64 t), (b6, 1, .slice a6 A.length c6)]) := by
        obtain ⟨c0, c1, _⟩ := C.out.next hbA
        exact ⟨c0, c1, ⟨yb6, cA0⟩, ⟨yb6, cA1⟩, trivial⟩
      have ⟨⟨kz0, k0⟩, ⟨kz1, k1⟩, ⟨kz2, k2⟩, ⟨kz3, k3⟩, _⟩ := C.out
      have fv3 := fv3.next hbA
      have zw := hbw.size
      have fv6 := hfv.next hbA
      clear hfv
      go_upto_region 6 with (first
        | (go_at_call 20; refine (HSP.out _ _ _ ((fv_read fv3).here (by go_grown))).mono ?_; rintro e vS ⟨a8, n8, c8, rfl, hfv, hbP⟩; have hbw := below_step (w := w) (by go_grown) hbP; have C : Hid (Cells vS [(b3, 0, .int .i64 t), (b3, 1, .slice a3 X.length c3), (b6, 0, .int .i64 t), (b6, 1, .slice a6 A.length c6)]) := C.out.next (below_step (by go_grown) hbP); have ⟨⟨kz0, k0⟩, ⟨kz1, k1⟩, ⟨kz2, k2⟩, ⟨kz3, k3⟩, _⟩ := C.out; have fv3 := fv3.next (below_step (by go_grown) hbP); have fv6 := fv6.next (below_step (by go_grown) hbP); have zw := hbw.size))
      obtain ⟨v8, hv⟩ : ∃ v, v = vS.alloc (.cells #[.int .i64 t, .slice a8 n8 c8] 36) := ⟨_, rfl⟩
      rw [← hv]
      have hbA : Below vS.heap.size vS v8 := by rw [hv]; exact new_below _ _
      have cA0 : v8.cell? ⟨vS.heap.size, 0, none⟩ = some (.int .i64 t) := by rw [hv]; go_simp
      have cA1 : v8.cell? ⟨vS.heap.size, 1, none⟩ = some (.slice a8 n8 c8) := by rw [hv]; go_simp
      have zA : vS.heap.size < v8.heap.size := by rw [hv]; simp
      clear hv
      obtain ⟨b8, hb8⟩ : ∃ b, b = vS.heap.size := ⟨_, rfl⟩
      rw [← hb8] at cA0 cA1 ⊢
      have yb8 : b8 < v8.heap.size := by omega
      clear hb8
      have hbw := below_step hbw hbA
      have C : Hid (Cells v8 [(b3, 0, .int .i64 t), (b3, 1, .slice a3 X.length c3), (b6, 0, .int .i64 t), (b6, 1, .slice a6 A.length c6), (b8, 0, .int .i64 t), (b8, 1, .slice a8 n8 c8)]) := by
        obtain ⟨c0, c1, c2, c3, _⟩ := C.out.next hbA
        exact ⟨c0, c1, c2, c3, ⟨yb8, cA0⟩, ⟨yb8, cA1⟩, trivial⟩
      have ⟨⟨kz0, k0⟩, ⟨kz1, k1⟩, ⟨kz2, k2⟩, ⟨kz3, k3⟩, ⟨kz4, k4⟩, ⟨kz5, k5⟩, _⟩ := C.out
      have fv3 := fv3.next hbA
      have fv6 := fv6.next hbA
      have zw := hbw.size
      have fv8 := hfv.next hbA
      clear hfv
      go_upto_region 10 with (first
        | (go_at_call 21; refine (likeW_same t (fv6.next (by go_grown)) (fv8.next (by go_grown)) (by omega)).mono ?_; rintro e vL ⟨rfl, hbE⟩; have hbw := below_step (w := w) (by go_grown) hbE; have C : Hid (Cells vL [(b3, 0, .int .i64 t), (b3, 1, .slice a3 X.length c3), (b6, 0, .int .i64 t), (b6, 1, .slice a6 A.length c6), (b8, 0, .int .i64 t), (b8, 1, .slice a8 n8 c8)]) := C.out.next (below_step (by go_grown) hbE); have ⟨⟨kz0, k0⟩, ⟨kz1, k1⟩, ⟨kz2, k2⟩, ⟨kz3, k3⟩, ⟨kz4, k4⟩, ⟨kz5, k5⟩, _⟩ := C.out; have fv6 := fv6.next (below_step (by go_grown) hbE); have fv8 := fv8.next (below_step (by go_grown) hbE); have zw := hbw.size))
      clear fv3 fv8
      go_upto_region 11 with (first
        | (go_at_call 22; refine (HC.out _ _ _ ((fv_read fv6).here (by go_grown)) h6c h6n).mono ?_; rintro e vC ⟨a10, n10, c10, rfl, hfv, hbP⟩; obtain ⟨rfl, _, h10c, h10n⟩ := fv_parts hfv; have hbw := below_step (w := w) (by go_grown) hbP; have C : Hid (Cells vC [(b3, 0, .int .i64 t), (b3, 1, .slice a3 X.length c3), (b6, 0, .int .i64 t), (b6, 1, .slice a6 A.length c6), (b8, 0, .int .i64 t), (b8, 1, .slice a8 n8 c8)]) := C.out.next (below_step (by go_grown) hbP); have ⟨⟨kz0, k0⟩, ⟨kz1, k1⟩, ⟨kz2, k2⟩, ⟨kz3, k3⟩, ⟨kz4, k4⟩, ⟨kz5, k5⟩, _⟩ := C.out; have fv6 := fv6.next (below_step (by go_grown) hbP); have zw := hbw.size))
      obtain ⟨v10, hv⟩ : ∃ v, v = vC.alloc (.cells #[.int .i64 t, .slice a10 W.length c10] 36) := ⟨_, rfl⟩
      rw [← hv]
      have hbA : Below vC.heap.size vC v10 := by rw [hv]; exact new_below _ _
      have cA0 : v10.cell? ⟨vC.heap.size, 0, none⟩ = some (.int .i64 t) := by rw [hv]; go_simp
      have cA1 : v10.cell? ⟨vC.heap.size, 1, none⟩ = some (.slice a10 W.length c10) := by rw [hv]; go_simp
      have zA : vC.heap.size < v10.heap.size := by rw [hv]; simp
      clear hv
      obtain ⟨b10, hb10⟩ : ∃ b, b = vC.heap.size := ⟨_, rfl⟩
      rw [← hb10] at cA0 cA1 ⊢
      have yb10 : b10 < v10.heap.size := by omega
      clear hb10
      have hbw := below_step hbw hbA
      have C : Hid (Cells v10 [(b3, 0, .int .i64 t), (b3, 1, .slice a3 X.length c3), (b6, 0, .int .i64 t), (b6, 1, .slice a6 A.length c6), (b8, 0, .int .i64 t), (b8, 1, .slice a8 n8 c8), (b10, 0, .int .i64 t), (b10, 1, .slice a10 W.length c10)]) := by
        obtain ⟨c0, c1, c2, c3, c4, c5, _⟩ := C.out.next hbA
        exact ⟨c0, c1, c2, c3, c4, c5, ⟨yb10, cA0⟩, ⟨yb10, cA1⟩, trivial⟩
      have ⟨⟨kz0, k0⟩, ⟨kz1, k1⟩, ⟨kz2, k2⟩, ⟨kz3, k3⟩, ⟨kz4, k4⟩, ⟨kz5, k5⟩, ⟨kz6, k6⟩, ⟨kz7, k7⟩, _⟩ := C.out
      have fv6 := fv6.next hbA
      have zw := hbw.size
      have fv10 := hfv.next hbA
      clear hfv
      go_upto_region 12 with (first
        | (go_at_call 23; refine (HD.out _ _ _ ((fv_read fv6).here (by go_grown)) h6c h6n).mono ?_; rintro e vD ⟨a12, n12, c12, e12, m12, d12, rfl, hfv, hiv, hap, hbP⟩; clear hap; obtain ⟨rfl, _, h12c, h12n⟩ := fv_parts hfv; obtain rfl := iv_length hiv; have hbw := below_step (w := w) (by go_grown) hbP; have C : Hid (Cells vD [(b3, 0, .int .i64 t), (b3, 1, .slice a3 X.length c3), (b6, 0, .int .i64 t), (b6, 1, .slice a6 A.length c6), (b8, 0, .int .i64 t), (b8, 1, .slice a8 n8 c8), (b10, 0, .int .i64 t), (b10, 1, .slice a10 W.length c10)]) := C.out.next (below_step (by go_grown) hbP); have ⟨⟨kz0, k0⟩, ⟨kz1, k1⟩, ⟨kz2, k2⟩, ⟨kz3, k3⟩, ⟨kz4, k4⟩, ⟨kz5, k5⟩, ⟨kz6, k6⟩, ⟨kz7, k7⟩, _⟩ := C.out; have fv6 := fv6.next (below_step (by go_grown) hbP); have fv10 := fv10.next (below_step (by go_grown) hbP); have zw := hbw.size))
      obtain ⟨v12, hv⟩ : ∃ v, v = vD.alloc (.cells #[.int .i64 m, .slice a12 D.length c12] 36) := ⟨_, rfl⟩
      rw [← hv]
      have hbA : Below vD.heap.size vD v12 := by rw [hv]; exact new_below _ _
      have cA0 : v12.cell? ⟨vD.heap.size, 0, none⟩ = some (.int .i64 m) := by rw [hv]; go_simp
      have cA1 : v12.cell? ⟨vD.heap.size, 1, none⟩ = some (.slice a12 D.length c12) := by rw [hv]; go_simp
      have zA : vD.heap.size < v12.heap.size := by rw [hv]; simp
      clear hv
      obtain ⟨b12, hb12⟩ : ∃ b, b = vD.heap.size := ⟨_, rfl⟩
      rw [← hb12] at cA0 cA1 ⊢
      have yb12 : b12 < v12.heap.size := by omega
      clear hb12
      have hbw := below_step hbw hbA
      have C : Hid (Cells v12 [(b3, 0, .int .i64 t), (b3, 1, .slice a3 X.length c3), (b6, 0, .int .i64 t), (b6, 1, .slice a6 A.length c6), (b8, 0, .int .i64 t), (b8, 1, .slice a8 n8 c8), (b10, 0, .int .i64 t), (b10, 1, .slice a10 W.length c10), (b12, 0, .int .i64 m), (b12, 1, .slice a12 D.length c12)]) := by
        obtain ⟨c0, c1, c2, c3, c4, c5, c6, c7, _⟩ := C.out.next hbA
        exact ⟨c0, c1, c2, c3, c4, c5, c6, c7, ⟨yb12, cA0⟩, ⟨yb12, cA1⟩, trivial⟩
      have ⟨⟨kz0, k0⟩, ⟨kz1, k1⟩, ⟨kz2, k2⟩, ⟨kz3, k3⟩, ⟨kz4, k4⟩, ⟨kz5, k5⟩, ⟨kz6, k6⟩, ⟨kz7, k7⟩, ⟨kz8, k8⟩, ⟨kz9, k9⟩, _⟩ := C.out
      have fv6 := fv6.next hbA
      have fv10 := fv10.next hbA
      have zw := hbw.size
      have fv12 := hfv.next hbA
      have iv13 := hiv.next hbA
      clear hfv hiv
      have hw1 : IntKind.i64.wrap (m - 1) = m - 1 := by rw [IntKind.wrap_i64]; omega
      go_upto_region 13 with (first
        | (go_at_call 23; refine (HS.out _ _ _ ((fv_read fv6).here (by go_grown)) h6c h6n).mono ?_; rintro e vE ⟨a14, n14, c14, e14, m14, d14, rfl, hfv, hiv, hap, hbP⟩; clear hap; obtain rfl := iv_length hiv; have hbw := below_step (w := w) (by go_grown) hbP; have C : Hid (Cells vE [(b3, 0, .int .i64 t), (b3, 1, .slice a3 X.length c3), (b6, 0, .int .i64 t), (b6, 1, .slice a6 A.length c6), (b8, 0, .int .i64 t), (b8, 1, .slice a8 n8 c8), (b10, 0, .int .i64 t), (b10, 1, .slice a10 W.length c10), (b12, 0, .int .i64 m), (b12, 1, .slice a12 D.length c12)]) := C.out.next (below_step (by go_grown) hbP); have ⟨⟨kz0, k0⟩, ⟨kz1, k1⟩, ⟨kz2, k2⟩, ⟨kz3, k3⟩, ⟨kz4, k4⟩, ⟨kz5, k5⟩, ⟨kz6, k6⟩, ⟨kz7, k7⟩, ⟨kz8, k8⟩, ⟨kz9, k9⟩, _⟩ := C.out; have fv6 := fv6.next (below_step (by go_grown) hbP); have fv10 := fv10.next (below_step (by go_grown) hbP); have fv12 := fv12.next (below_step (by go_grown) hbP); have iv13 := iv13.next (below_step (by go_grown) hbP); have zw := hbw.size))
      obtain ⟨v14, hv⟩ : ∃ v, v = vE.alloc (.cells #[.int .i64 (m - 1), .slice a14 n14 c14] 36) := ⟨_, rfl⟩
      rw [← hv]
      have hbA : Below vE.heap.size vE v14 := by rw [hv]; exact new_below _ _
      have cA0 : v14.cell? ⟨vE.heap.size, 0, none⟩ = some (.int .i64 (m - 1)) := by rw [hv]; go_simp
      have cA1 : v14.cell? ⟨vE.heap.size, 1, none⟩ = some (.slice a14 n14 c14) := by rw [hv]; go_simp
      have zA : vE.heap.size < v14.heap.size := by rw [hv]; simp
      clear hv
      obtain ⟨b14, hb14⟩ : ∃ b, b = vE.heap.size := ⟨_, rfl⟩
      rw [← hb14] at cA0 cA1 ⊢
      have yb14 : b14 < v14.heap.size := by omega
      clear hb14
      have hbw := below_step hbw hbA
      have C : Hid (Cells v14 [(b3, 0, .int .i64 t), (b3, 1, .slice a3 X.length c3), (b6, 0, .int .i64 t), (b6, 1, .slice a6 A.length c6), (b8, 0, .int .i64 t), (b8, 1, .slice a8 n8 c8), (b10, 0, .int .i64 t), (b10, 1, .slice a10 W.length c10), (b12, 0, .int .i64 m), (b12, 1, .slice a12 D.length c12), (b14, 0, .int .i64 (m - 1)), (b14, 1, .slice a14 n14 c14)]) := by
        obtain ⟨c0, c1, c2, c3, c4, c5, c6, c7, c8, c9, _⟩ := C.out.next hbA
        exact ⟨c0, c1, c2, c3, c4, c5, c6, c7, c8, c9, ⟨yb14, cA0⟩, ⟨yb14, cA1⟩, trivial⟩
      have ⟨⟨kz0, k0⟩, ⟨kz1, k1⟩, ⟨kz2, k2⟩, ⟨kz3, k3⟩, ⟨kz4, k4⟩, ⟨kz5, k5⟩, ⟨kz6, k6⟩, ⟨kz7, k7⟩, ⟨kz8, k8⟩, ⟨kz9, k9⟩, ⟨kz10, k10⟩, ⟨kz11, k11⟩, _⟩ := C.out
      have fv6 := fv6.next hbA
      have fv10 := fv10.next hbA
      have fv12 := fv12.next hbA
      have iv13 := iv13.next hbA
      have zw := hbw.size
      have iv15 := hiv.next hbA
      clear hfv hiv
      go_upto_region 14 with (first
        | (go_at_call 23; refine (HG.out _ _ _ ((fv_read fv12).here (by go_grown)) h12c h12n).mono ?_; rintro e vF ⟨a16, n16, c16, e16, m16, d16, rfl, hfv, hiv, hap, hbP⟩; clear hap; obtain rfl := iv_length hiv; have hbw := below_step (w := w) (by go_grown) hbP; have C : Hid (Cells vF [(b3, 0, .int .i64 t), (b3, 1, .slice a3 X.length c3), (b6, 0, .int .i64 t), (b6, 1, .slice a6 A.length c6), (b8, 0, .int .i64 t), (b8, 1, .slice a8 n8 c8), (b10, 0, .int .i64 t), (b10, 1, .slice a10 W.length c10), (b12, 0, .int .i64 m), (b12, 1, .slice a12 D.length c12), (b14, 0, .int .i64 (m - 1)), (b14, 1, .slice a14 n14 c14)]) := C.out.next (below_step (by go_grown) hbP); have ⟨⟨kz0, k0⟩, ⟨kz1, k1⟩, ⟨kz2, k2⟩, ⟨kz3, k3⟩, ⟨kz4, k4⟩, ⟨kz5, k5⟩, ⟨kz6, k6⟩, ⟨kz7, k7⟩, ⟨kz8, k8⟩, ⟨kz9, k9⟩, ⟨kz10, k10⟩, ⟨kz11, k11⟩, _⟩ := C.out; have fv6 := fv6.next (below_step (by go_grown) hbP); have fv10 := fv10.next (below_step (by go_grown) hbP); have fv12 := fv12.next (below_step (by go_grown) hbP); have iv13 := iv13.next (below_step (by go_grown) hbP); have iv15 := iv15.next (below_step (by go_grown) hbP); have zw := hbw.size))
      obtain ⟨v16, hv⟩ : ∃ v, v = vF.alloc (.cells #[.int .i64 1000000000000000, .slice a16 n16 c16] 36) := ⟨_, rfl⟩
      rw [← hv]
      have hbA : Below vF.heap.size vF v16 := by rw [hv]; exact new_below _ _
      have cA0 : v16.cell? ⟨vF.heap.size, 0, none⟩ = some (.int .i64 1000000000000000) := by rw [hv]; go_simp
      have cA1 : v16.cell? ⟨vF.heap.size, 1, none⟩ = some (.slice a16 n16 c16) := by rw [hv]; go_simp
      have zA : vF.heap.size < v16.heap.size := by rw [hv]; simp
      clear hv
      obtain ⟨b16, hb16⟩ : ∃ b, b = vF.heap.size := ⟨_, rfl⟩
      rw [← hb16] at cA0 cA1 ⊢
      have yb16 : b16 < v16.heap.size := by omega
      clear hb16
      have hbw := below_step hbw hbA
      have C : Hid (Cells v16 [(b3, 0, .int .i64 t), (b3, 1, .slice a3 X.length c3), (b6, 0, .int .i64 t), (b6, 1, .slice a6 A.length c6), (b8, 0, .int .i64 t), (b8, 1, .slice a8 n8 c8), (b10, 0, .int .i64 t), (b10, 1, .slice a10 W.length c10), (b12, 0, .int .i64 m), (b12, 1, .slice a12 D.length c12), (b14, 0, .int .i64 (m - 1)), (b14, 1, .slice a14 n14 c14), (b16, 0, .int .i64 1000000000000000), (b16, 1, .slice a16 n16 c16)]) := by
        obtain ⟨c0, c1, c2, c3, c4, c5, c6, c7, c8, c9, c10, c11, _⟩ := C.out.next hbA
        exact ⟨c0, c1, c2, c3, c4, c5, c6, c7, c8, c9, c10, c11, ⟨yb16, cA0⟩, ⟨yb16, cA1⟩, trivial⟩
      have ⟨⟨kz0, k0⟩, ⟨kz1, k1⟩, ⟨kz2, k2⟩, ⟨kz3, k3⟩, ⟨kz4, k4⟩, ⟨kz5, k5⟩, ⟨kz6, k6⟩, ⟨kz7, k7⟩, ⟨kz8, k8⟩, ⟨kz9, k9⟩, ⟨kz10, k10⟩, ⟨kz11, k11⟩, ⟨kz12, k12⟩, ⟨kz13, k13⟩, _⟩ := C.out
      have fv6 := fv6.next hbA
      have fv10 := fv10.next hbA
      have fv12 := fv12.next hbA
      have iv13 := iv13.next hbA
      have iv15 := iv15.next hbA
      have zw := hbw.size
      have iv17 := hiv.next hbA
      clear hfv hiv
      go_upto_region 15 with (first
        | (go_at_call 23; refine (HO.out _ _ _ ((fv_read fv10).here (by go_grown)) h10c h10n).mono ?_; rintro e vG ⟨a18, n18, c18, e18, m18, d18, rfl, hfv, hiv, hap, hbP⟩; clear hap; obtain rfl := iv_length hiv; have hbw := below_step (w := w) (by go_grown) hbP; have C : Hid (Cells vG [(b3, 0, .int .i64 t), (b3, 1, .slice a3 X.length c3), (b6, 0, .int .i64 t), (b6, 1, .slice a6 A.length c6), (b8, 0, .int .i64 t), (b8, 1, .slice a8 n8 c8), (b10, 0, .int .i64 t), (b10, 1, .slice a10 W.length c10), (b12, 0, .int .i64 m), (b12, 1, .slice a12 D.length c12), (b14, 0, .int .i64 (m - 1)), (b14, 1, .slice a14 n14 c14), (b16, 0, .int .i64 1000000000000000), (b16, 1, .slice a16 n16 c16)]) := C.out.next (below_step (by go_grown) hbP); have ⟨⟨kz0, k0⟩, ⟨kz1, k1⟩, ⟨kz2, k2⟩, ⟨kz3, k3⟩, ⟨kz4, k4⟩, ⟨kz5, k5⟩, ⟨kz6, k6⟩, ⟨kz7, k7⟩, ⟨kz8, k8⟩, ⟨kz9, k9⟩, ⟨kz10, k10⟩, ⟨kz11, k11⟩, ⟨kz12, k12⟩, ⟨kz13, k13⟩, _⟩ := C.out; have fv6 := fv6.next (below_step (by go_grown) hbP); have fv10 := fv10.next (below_step (by go_grown) hbP); have fv12 := fv12.next (below_step (by go_grown) hbP); have iv13 := iv13.next (below_step (by go_grown) hbP); have iv15 := iv15.next (below_step (by go_grown) hbP); have iv17 := iv17.next (below_step (by go_grown) hbP); have zw := hbw.size))
      obtain ⟨v18, hv⟩ : ∃ v, v = vG.alloc (.cells #[.int .i64 1000000000000000, .slice a18 n18 c18] 36) := ⟨_, rfl⟩
      rw [← hv]
      have hbA : Below vG.heap.size vG v18 := by rw [hv]; exact new_below _ _
      have cA0 : v18.cell? ⟨vG.heap.size, 0, none⟩ = some (.int .i64 1000000000000000) := by rw [hv]; go_simp
      have cA1 : v18.cell? ⟨vG.heap.size, 1, none⟩ = some (.slice a18 n18 c18) := by rw [hv]; go_simp
      have zA : vG.heap.size < v18.heap.size := by rw [hv]; simp
      clear hv
      obtain ⟨b18, hb18⟩ : ∃ b, b = vG.heap.size := ⟨_, rfl⟩
      rw [← hb18] at cA0 cA1 ⊢
      have yb18 : b18 < v18.heap.size := by omega
      clear hb18
      have hbw := below_step hbw hbA
      have C : Hid (Cells v18 [(b3, 0, .int .i64 t), (b3, 1, .slice a3 X.length c3), (b6, 0, .int .i64 t), (b6, 1, .slice a6 A.length c6), (b8, 0, .int .i64 t), (b8, 1, .slice a8 n8 c8), (b10, 0, .int .i64 t), (b10, 1, .slice a10 W.length c10), (b12, 0, .int .i64 m), (b12, 1, .slice a12 D.length c12), (b14, 0, .int .i64 (m - 1)), (b14, 1, .slice a14 n14 c14), (b16, 0, .int .i64 1000000000000000), (b16, 1, .slice a16 n16 c16), (b18, 0, .int .i64 1000000000000000), (b18, 1, .slice a18 n18 c18)]) := by
        obtain ⟨c0, c1, c2, c3, c4, c5, c6, c7, c8, c9, c10, c11, c12, c13, _⟩ := C.out.next hbA
        exact ⟨c0, c1, c2, c3, c4, c5, c6, c7, c8, c9, c10, c11, c12, c13, ⟨yb18, cA0⟩, ⟨yb18, cA1⟩, trivial⟩
      have ⟨⟨kz0, k0⟩, ⟨kz1, k1⟩, ⟨kz2, k2⟩, ⟨kz3, k3⟩, ⟨kz4, k4⟩, ⟨kz5, k5⟩, ⟨kz6, k6⟩, ⟨kz7, k7⟩, ⟨kz8, k8⟩, ⟨kz9, k9⟩, ⟨kz10, k10⟩, ⟨kz11, k11⟩, ⟨kz12, k12⟩, ⟨kz13, k13⟩, ⟨kz14, k14⟩, ⟨kz15, k15⟩, _⟩ := C.out
      have fv6 := fv6.next hbA
      have fv10 := fv10.next hbA
      have fv12 := fv12.next hbA
      have iv13 := iv13.next hbA
      have iv15 := iv15.next hbA
      have iv17 := iv17.next hbA
      have zw := hbw.size
      have iv19 := hiv.next hbA
      clear hfv hiv
      have is13 := iv_smp iv13
      have is15 := iv_smp iv15
      have is17 := iv_smp iv17
      have is19 := iv_smp iv19
      have idu : (du.length : Int) ≤ 200 := by omega
      have iso : (so.length : Int) ≤ 200 := by omega
      have iag : (ag.length : Int) ≤ 200 := by omega
      have iof : (of'.length : Int) ≤ 200 := by omega
      clear iv13 iv15 iv17 iv19 HIM HSP HC HD HS HG HO
      have HC18 : Hid (Cells v18 [(b3, 0, .int .i64 t), (b3, 1, .slice a3 X.length c3), (b6, 0, .int .i64 t), (b6, 1, .slice a6 A.length c6), (b8, 0, .int .i64 t), (b8, 1, .slice a8 n8 c8), (b10, 0, .int .i64 t), (b10, 1, .slice a10 W.length c10), (b12, 0, .int .i64 m), (b12, 1, .slice a12 D.length c12), (b14, 0, .int .i64 (m - 1)), (b14, 1, .slice a14 n14 c14), (b16, 0, .int .i64 1000000000000000), (b16, 1, .slice a16 n16 c16), (b18, 0, .int .i64 1000000000000000), (b18, 1, .slice a18 n18 c18)]) := C.out
      clear kz0 k0 kz1 k1 kz2 k2 kz3 k3 kz4 k4 kz5 k5 kz6 k6 kz7 k7 kz8 k8 kz9 k9 kz10 k10 kz11 k11 kz12 k12 kz13 k13 kz14 k14 kz15 k15
      go_wp2
      go_loop [20, 21] (fun s i => ∃ (j n : Nat), i = .int .i64 j ∧ j ≤ du.length ∧ s = .int .i64 n ∧ n ≤ j ∧ Hid ((du.take j).count id = n)) (fun _ i => du.length - (intOf i).toNat)
      case atStart => exact ⟨0, 0, rfl, by omega, rfl, by omega, rfl⟩
      case round =>
        obtain ⟨j, n, rfl, hj, rfl, hnj, HN⟩ := hrel
        by_cases hlj : j < du.length
        · have hlj' : (j : Int) < (du.length : Int) := by omega
          obtain ⟨bq, oq, rfl, hbq, cq⟩ := is13 j hlj
          have hst := count_next (id := id) hlj
          obtain ⟨x, hx⟩ : ∃ x, du[j] = x := ⟨_, rfl⟩
          rw [hx] at cq hst
          rw [HN.out] at hst
          clear hx
          by_cases hxi : x = id
          · subst hxi
            have HST : Hid ((du.take (j + 1)).count x = n + 1) := by rw [if_pos rfl] at hst; exact hst
            clear hst
            go_wp2
            go_round
            case rel => exact ⟨j + 1, n + 1, by go_num, by omega, by go_num, by omega, HST⟩
            case measure => first | (simp [intOf]; done) | (simp [intOf]; omega)
          · have HST : Hid ((du.take (j + 1)).count id = n) := by rw [if_neg hxi] at hst; exact hst
            clear hst
            have hxi' : (x == id) = false := by simp [hxi]
            go_wp2
            go_round
            case rel => exact ⟨j + 1, n, by go_num, by omega, rfl, by omega, HST⟩
            case measure => first | (simp [intOf]; done) | (simp [intOf]; omega)
        · have e : j = du.length := by omega
          subst e
          obtain rfl : n = 1 := by
            have h := HN.out
            rw [List.take_length, H1.out] at h
            exact h.symm
          clear HN
          go_wp2
          go_loop [22] (fun i => ∃ (j : Nat), i = .int .i64 j ∧ j ≤ so.length + ag.length + of'.length) (fun i => so.length + ag.length + of'.length - (intOf i).toNat)
          case atStart => exact ⟨0, rfl, by omega⟩
          case round =>
            obtain ⟨j, rfl, hj⟩ := hrel
            have ew1 : IntKind.i64.wrap ((so.length : Int) + (ag.length : Int)) = (so.length : Int) + (ag.length : Int) := by rw [IntKind.wrap_i64]; omega
            have ew2 : IntKind.i64.wrap ((so.length : Int) + (ag.length : Int) + (of'.length : Int)) = (so.length : Int) + (ag.length : Int) + (of'.length : Int) := by rw [IntKind.wrap_i64]; omega
            by_cases hlj : j < so.length + ag.length + of'.length
            · have hlj' : (j : Int) < (so.length : Int) + (ag.length : Int) + (of'.length : Int) := by omega
              by_cases h1 : j < so.length
              · have h1' : (j : Int) < (so.length : Int) := by omega
                obtain ⟨bq, oq, rfl, hbq, cq⟩ := is15 j h1
                have hne := not_at NS.out j h1
                obtain ⟨x, hx⟩ : ∃ x, so[j] = x := ⟨_, rfl⟩
                rw [hx] at cq hne
                clear hx
                have hxi' : (x == id) = false := by simp [hne]
                go_wp2
                go_round
                case rel => exact ⟨j + 1, by go_num, by omega⟩
                case measure => first | (simp [intOf]; done) | (simp [intOf]; omega)
              · have h1' : ¬ (j : Int) < (so.length : Int) := by omega
                obtain ⟨q, hq⟩ : ∃ q, j = so.length + q := ⟨j - so.length, by omega⟩
                have HQ : Hid (j = so.length + q) := hq
                have ew3 : IntKind.i64.wrap ((j : Int) - (so.length : Int)) = (q : Int) := by rw [IntKind.wrap_i64]; omega
                by_cases h2 : q < ag.length
                · have h2' : (j : Int) < (so.length : Int) + (ag.length : Int) := by omega
                  have h2q : (q : Int) < (ag.length : Int) := by omega
                  clear hq
                  obtain ⟨bq, oq, rfl, hbq, cq⟩ := is17 q h2
                  have hne := not_at NG.out q h2
                  obtain ⟨x, hx⟩ : ∃ x, ag[q] = x := ⟨_, rfl⟩
                  rw [hx] at cq hne
                  clear hx
                  have hxi' : (x == id) = false := by simp [hne]
                  go_wp2
                  go_round
                  case rel => exact ⟨j + 1, by go_num, by omega⟩
                  case measure => first | (simp [intOf]; done) | (simp [intOf]; omega)
                · have h2' : ¬ (j : Int) < (so.length : Int) + (ag.length : Int) := by omega
                  obtain ⟨r, hr⟩ : ∃ r, q = ag.length + r := ⟨q - ag.length, by omega⟩
                  have ew4 : IntKind.i64.wrap ((q : Int) - (ag.length : Int)) = (r : Int) := by rw [IntKind.wrap_i64]; omega
                  have h3 : r < of'.length := by omega
                  have h3' : (r : Int) < (of'.length : Int) := by omega
                  clear hq hr
                  obtain ⟨bq, oq, rfl, hbq, cq⟩ := is19 r h3
                  have hne := not_at NO.out r h3
                  obtain ⟨x, hx⟩ : ∃ x, of'[r] = x := ⟨_, rfl⟩
                  rw [hx] at cq hne
                  clear hx
                  have hxi' : (x == id) = false := by simp [hne]
                  go_wp2
                  go_round
                  case rel => exact ⟨j + 1, by go_num, by omega⟩
                  case measure => first | (simp [intOf]; done) | (simp [intOf]; omega)
            · have hlj' : ¬ (j : Int) < (so.length : Int) + (ag.length : Int) + (of'.length : Int) := by omega
              have C : Hid (Cells v18 [(b3, 0, .int .i64 t), (b3, 1, .slice a3 X.length c3), (b6, 0, .int .i64 t), (b6, 1, .slice a6 A.length c6), (b8, 0, .int .i64 t), (b8, 1, .slice a8 n8 c8), (b10, 0, .int .i64 t), (b10, 1, .slice a10 W.length c10), (b12, 0, .int .i64 m), (b12, 1, .slice a12 D.length c12), (b14, 0, .int .i64 (m - 1)), (b14, 1, .slice a14 n14 c14), (b16, 0, .int .i64 1000000000000000), (b16, 1, .slice a16 n16 c16), (b18, 0, .int .i64 1000000000000000), (b18, 1, .slice a18 n18 c18)]) := HC18
              have ⟨⟨kz0, k0⟩, ⟨kz1, k1⟩, ⟨kz2, k2⟩, ⟨kz3, k3⟩, ⟨kz4, k4⟩, ⟨kz5, k5⟩, ⟨kz6, k6⟩, ⟨kz7, k7⟩, ⟨kz8, k8⟩, ⟨kz9, k9⟩, ⟨kz10, k10⟩, ⟨kz11, k11⟩, ⟨kz12, k12⟩, ⟨kz13, k13⟩, ⟨kz14, k14⟩, ⟨kz15, k15⟩, _⟩ := C.out
              go_wp2_with (first
                | (go_at_call 24; have g0 := dW; refine (implWheelOk_yes _ ((fv_read fv12).here hbK) h12c h12n WD.out).mono ?_; rintro e vZ ⟨rfl, hbZ⟩)
                | (go_at_call 24; refine (implWheelOk_yes _ (fv_read fv6) h6c h6n HA.out.ok).mono ?_; rintro e vK ⟨rfl, hbK⟩; have dW : True := trivial; have C : Hid (Cells vK [(b3, 0, .int .i64 t), (b3, 1, .slice a3 X.length c3), (b6, 0, .int .i64 t), (b6, 1, .slice a6 A.length c6), (b8, 0, .int .i64 t), (b8, 1, .slice a8 n8 c8), (b10, 0, .int .i64 t), (b10, 1, .slice a10 W.length c10), (b12, 0, .int .i64 m), (b12, 1, .slice a12 D.length c12), (b14, 0, .int .i64 (m - 1)), (b14, 1, .slice a14 n14 c14), (b16, 0, .int .i64 1000000000000000), (b16, 1, .slice a16 n16 c16), (b18, 0, .int .i64 1000000000000000), (b18, 1, .slice a18 n18 c18)]) := C.out.next hbK; have ⟨⟨kz0, k0⟩, ⟨kz1, k1⟩, ⟨kz2, k2⟩, ⟨kz3, k3⟩, ⟨kz4, k4⟩, ⟨kz5, k5⟩, ⟨kz6, k6⟩, ⟨kz7, k7⟩, ⟨kz8, k8⟩, ⟨kz9, k9⟩, ⟨kz10, k10⟩, ⟨kz11, k11⟩, ⟨kz12, k12⟩, ⟨kz13, k13⟩, ⟨kz14, k14⟩, ⟨kz15, k15⟩, _⟩ := C.out))
              go_ret
              exact ⟨rfl, below_step (below_step hbw hbK) hbZ⟩
  · have hbig : (4096 : Int) < (len0 : Int) := by omega
    go_enter Try.func4, Try.ntmps4
    go_wp2
    go_ret
    exact ⟨rfl, Below.refl _ _⟩

/-! ### THE ROW's STEP: WRITTEN OUT: LEAVE IT -/
set_option maxRecDepth 100000 in
theorem lifted (os : Os) (started : os.Started) (H : Type) (enc : TypeId × Value → H) :
    ReturnsInHanded {} Try.checked os 4 .any (Rows.fnTimersSpec.pre6 enc Try.prog Try.f4 Rows.fnTimersRow.domain false) (Rows.fnTimersSpec.post enc Try.prog Try.f4 false true false false) := by
  refine returnsInHanded_of_change (C := Try.checked) own started (by kernel_rfl) Try.func4
    (ChangeSpec.witness6 (enc := enc) (C := Try.checked) false ⟨#[], #[.slice none 0 0], []⟩ 8 (by kernel_rfl) (by kernel_rfl) (by kernel_rfl) (by kernel_rfl)) ?_
  intro W base args ds gs before hval0 hW hcnd _
  have hval : ∀ (j : Nat) t v, Try.f4.params[j]? = some t → args[j]? = some v → Value.okWide Try.prog W .any base t v := hval0
  have hW' := hW
  obtain ⟨p, q, hA0, hV, rfl, hfz, hnd⟩ := hW
  have hA : DataW.TrodAll enc Try.prog W 0 (fun _ => true) true Try.f4.params.toList args.toList ds p := hA0
  rw [Try.params4] at hA hval
  obtain ⟨v0, vs0, d0, ds0, p0, q0, hargs, rfl, rfl, h0, r0⟩ := trodAll_cons hA
  obtain ⟨rfl, rfl, rfl⟩ := trodAll_nil r0
  obtain rfl : args = #[v0] := by cases args; simp_all
  obtain ⟨rfl, rfl⟩ := trodVars_none hV
  obtain ⟨a0, len0, cap0, rfl⟩ := okWide_slice Try.underlying22 (hval 0 22 v0 rfl rfl)
  have k0 := h0
  have lt0 : ∀ x ∈ p0, x.block < W.heap.size := by obtain ⟨m, hm⟩ := k0; exact DataW.trod_lt m _ _ _ hm
  obtain ⟨z0, w0⟩ : ∃ zs, IsRow .u8 W a0 len0 cap0 zs := by
    obtain ⟨fuel, hf⟩ := h0
    rcases open_ints Try.underlying22 Try.underlying5 (by kernel_rfl) hf with ⟨hcs, _⟩ | ⟨x, l, c, zs, hcs, _, hl, hm, hz, _, hcell, hwz⟩
    · simp [Value.cells] at hcs
      obtain ⟨rfl, rfl, rfl⟩ := hcs
      exact ⟨[], .inl ⟨rfl, rfl, rfl, rfl⟩⟩
    · simp [Value.cells] at hcs
      obtain ⟨rfl, rfl, rfl⟩ := hcs
      exact ⟨zs, .inr ⟨_, rfl, hl, hm, by simpa using hz, hcell, hwz⟩⟩
  clear hA0 hval0
  refine (walk a0 len0 cap0 z0 W w0).mono fun e W' ⟨he, bel⟩ => ?_
  subst he
  exact ⟨_, rfl, _, _, _, [], _, [], hW', trodAll_mk1 (shut_bool Try.underlying4 _), (trodAll_cons_mk (Below.trod laidOut (by kernel_rfl) (of_decide_eq_true (by kernel_rfl)) k0 bel lt0) trodAll_mk0), rfl, bel.frame _, fun h => by cases h⟩

theorem over : Rows.fnTimersRow.holds Try.pinned (OpenSpec.ofChange Rows.fnTimersSpec) :=
  OpenClaim.holds_of_wide 4 Try.f4 rfl rfl rfl rfl rfl rfl rfl ⟨rfl, rfl, rfl, rfl, rfl⟩ rfl rfl rfl rfl rfl (by kernel_rfl) Try.func4 (by kernel_rfl)
    (of_decide_eq_true (by kernel_rfl)) (by unfold Func.isWrapper; first | (rw [if_pos (by decide +kernel)]; kernel_rfl) | (rw [if_neg (by decide +kernel)]; exact ⟨rfl, rfl⟩))
    (fun os started H enc _ => lifted os started H enc)

/-- ████ THE STATEMENT ████ -/
theorem proved : Rows.FnTimersSaid := over
#print axioms proved
end Go.Proofs.Ytdgefdjgpneanac.fnTimers
namespace Go.Proofs.Ytdgefdjgpneanac
theorem fnTimers_holds : Rows.FnTimersSaid := fnTimers.proved
#print axioms fnTimers_holds
end Go.Proofs.Ytdgefdjgpneanac
