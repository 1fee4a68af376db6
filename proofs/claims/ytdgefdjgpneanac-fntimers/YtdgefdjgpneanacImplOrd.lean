/- What slices.IsSortedFunc answers at timers by time, and impl.areUnlike by Id. -/
import Derived.Test.YtdgefdjgpneanacImplCmp
import Derived.Test.YtdgefdjgpneanacSpecCancel
import Derived.Shelf.SlSortCmp.QuietGrown
import Derived.Deep.CutRange
import Derived.Deep.DeepCutAuto
namespace Go.Proofs.Ytdgefdjgpneanac
open Go.ChangeShapes Go.WideShapes Go.ChangeAt Go.RowKit Go.Sort
set_option linter.unusedVariables false
set_option maxRecDepth 100000

theorem cell_in {w : World} {b o : Nat} {v : Value} (hb : b < w.heap.size) (h : w.cell? ⟨b, o, none⟩ = some v) (n : Nat) (os : Array Obj) : (grow (w.drewN n) os).cell? ⟨b, o, none⟩ = some v := cell_grown (by exact hb) h n os
theorem below_in {B : Nat} {w wr : World} (h : RowKit.Below B w wr) (n : Nat) (os : Array Obj) (hB : B ≤ wr.heap.size) : RowKit.Below B w (grow (wr.drewN n) os) := h.trans ((Grows.below ⟨n, os, rfl⟩).mono hB)
/-- No later one stands ahead, from k on. -/
def OrdFrom (xs : List (Int × Int)) (k : Nat) : Prop := ∀ i j (hi : i < xs.length) (hj : j < xs.length), j = i + 1 → k ≤ i → ¬ byT xs[j] xs[i] < 0
def OrdPost (xs : List (Int × Int)) (w : World) (e : Ending) (w' : World) : Prop := ∃ f : Bool, e = .returned (.bool f) ∧ (f = true ↔ OrdFrom xs 0) ∧ RowKit.Below w.heap.size w w'
set_option maxHeartbeats 2000000 in
theorem isSorted_any {w : World} {a : Option Addr} (cap : Nat) {xs : List (Int × Int)} (h : Smp w.heap.size w a xs) (hl : xs.length ≤ 201) :
    Calls Try.prog 78 #[.slice a xs.length cap, .func (.func 73) #[] #[]] w (OrdPost xs w) := by
  have mixed : Try.prog.follows .mixedOrders = true := by kernel_rfl
  have eg : ∀ args w, (callFunc 73 args).run Try.prog w = .ok (.enter 73 args) w := enters_of Try.func73 (by kernel_rfl) rfl
  obtain ⟨N, hN⟩ : ∃ N, xs.length = N := ⟨_, rfl⟩
  have HN : Hid (xs.length = N) := hN
  rw [hN] at hl
  rw [hN]
  clear hN
  by_cases h0 : N = 0
  · subst h0
    go_enter Try.func78, Try.ntmps78
    go_wp2
    refine wp_loop_rounds 1 ?_
    rw [rounds_succ]
    go_wp2
    go_ret
    exact ⟨true, rfl, ⟨fun _ i j hi => absurd hi (by rw [HN.out]; omega), fun _ => rfl⟩, RowKit.Below.refl _ _⟩
  · have hl' : (N : Int) ≤ 201 := by omega
    have h0' : (1 : Int) ≤ N := by omega
    obtain ⟨M, hM⟩ : ∃ M : Nat, (N : Int) - 1 = M := ⟨N - 1, by omega⟩
    go_enter Try.func78, Try.ntmps78
    go_wp2
    go_loopw [5] (fun i wr => ∃ k : Nat, i = .int .i64 k ∧ k < N ∧ OrdFrom xs k ∧ RowKit.Below w.heap.size w wr) (fun i _ => (intOf i).toNat)
    case atStart => exact ⟨M, by go_num, by omega, fun i j hi hj e hk => absurd hj (by rw [HN.out]; omega), RowKit.Below.refl _ _⟩
    case round =>
      obtain ⟨m, rfl, hm, hord, hwr⟩ := hrel
      by_cases hm0 : m = 0
      · subst hm0
        go_wp2
        go_ret
        exact ⟨true, rfl, ⟨fun _ => hord, fun _ => rfl⟩, hwr⟩
      · obtain ⟨k, hk⟩ : ∃ k : Nat, (m : Int) - 1 = k := ⟨m - 1, by omega⟩
        have HM : Hid (m = k + 1) := (by omega : m = k + 1)
        have hmx : m < xs.length := by rw [HN.out]; exact hm
        have hkx : k < xs.length := by have := HM.out; omega
        obtain ⟨b, off, rfl, hb, c0, c1⟩ := h.at hwr m hmx
        obtain ⟨b', off', e, _, d0, d1⟩ := h.at hwr k hkx
        cases e
        obtain ⟨z, hz⟩ : ∃ z, byT xs[m] xs[k] = z := ⟨_, rfl⟩
        have hcon : ∀ W, Calls Try.prog 73 #[.agg #[.int .i64 xs[m].1, .int .i64 xs[m].2], .agg #[.int .i64 xs[k].1, .int .i64 xs[k].2]] W fun e w' => e = .returned (.int .i64 z) ∧ Grows W w' := by rw [← hz]; exact fun W => byTime_any _ _ W
        have HZ : Hid (byT xs[m] xs[k] = z) := hz
        obtain ⟨p, q, hpq⟩ : ∃ p q, xs[m] = (p, q) := ⟨_, _, rfl⟩
        obtain ⟨r, t, hrt⟩ : ∃ r t, xs[k] = (r, t) := ⟨_, _, rfl⟩
        rw [hpq] at c0 c1 hcon
        rw [hrt] at d0 d1 hcon
        simp only at c0 c1 d0 d1 hcon
        have hwz := hwr.size
        have l0 := cell_in (Nat.lt_of_lt_of_le hb hwz) c0
        have l1 := cell_in (Nat.lt_of_lt_of_le hb hwz) c1
        have m0 := cell_in (Nat.lt_of_lt_of_le hb hwz) d0
        have m1 := cell_in (Nat.lt_of_lt_of_le hb hwz) d1
        clear hz hpq hrt c0 c1 d0 d1
        have i1 : (0 : Int) < m := by omega
        have i2 : (m : Int) < N := by omega
        have i3 : (0 : Int) ≤ k := by omega
        have i4 : (k : Int) < N := by omega
        have i5 : (m : Int) ≤ 201 := by omega
        have i6 : IntKind.i64.wrap (k : Int) = k := by simp [IntKind.wrap, IntKind.bits, IntKind.signed]; omega
        by_cases hneg : z < 0
        · go_upto_region 4 with fail
          go_quiet_grown (first | (go_at_call 73; refine Calls.grown_of (hcon _)))
          go_wp2
          go_ret
          exact ⟨false, rfl, ⟨fun h => (by cases h), fun h => absurd (by rw [HZ.out]; exact hneg) (h k m hkx hmx HM.out (Nat.zero_le _))⟩, below_in hwr _ _ hwz⟩
        · go_upto_region 4 with fail
          go_quiet_grown (first | (go_at_call 73; refine Calls.grown_of (hcon _)))
          go_wp2
          go_roundw
          case rel =>
            refine ⟨k, by go_num, by omega, fun i j hi hj e hki => ?_, below_in hwr _ _ hwz⟩
            by_cases e2 : i = k
            · subst e2
              have e3 : j = m := by rw [HM.out]; exact e
              subst e3
              rw [HZ.out]
              exact hneg
            · exact hord i j hi hj e (by have := HM.out; omega)
          case measure => have := HM.out; simp [intOf]; omega
/-- Up to k no two neighbours have one Id. -/
def ApartTo (xs : List (Int × Int)) (k : Nat) : Prop := ∀ i j (hi : i < xs.length) (hj : j < xs.length), j = i + 1 → j < k → ¬ xs[i].1 = xs[j].1
def ApartPost (xs : List (Int × Int)) (w : World) (e : Ending) (w' : World) : Prop := ∃ f : Bool, e = .returned (.bool f) ∧ (f = true ↔ ApartTo xs xs.length) ∧ RowKit.Below w.heap.size w w'
def cmpP (p q : Int × Int) : Int := cmpI p.1 q.1
theorem cmpP_any (p q : Int × Int) (w : World) : Calls Try.prog 80 #[.agg #[.int .i64 p.1, .int .i64 p.2], .agg #[.int .i64 q.1, .int .i64 q.2]] w fun e w' => e = .returned (.int .i64 (cmpP p q)) ∧ Grows w w' := byId_any p q w
set_option maxHeartbeats 2000000 in
theorem unlike_any {w : World} {a : Option Addr} (cap : Nat) {xs : List (Int × Int)} (h : Smp w.heap.size w a xs) (hl : xs.length ≤ 201) :
    Calls Try.prog 79 #[.slice a xs.length cap, .func (.func 80) #[] #[]] w (ApartPost xs w) := by
  have mixed : Try.prog.follows .mixedOrders = true := by kernel_rfl
  have eg : ∀ args w, (callFunc 80 args).run Try.prog w = .ok (.enter 80 args) w := enters_of Try.func80 (by kernel_rfl) rfl
  obtain ⟨N, hN⟩ : ∃ N, xs.length = N := ⟨_, rfl⟩
  have HN : Hid (xs.length = N) := hN
  rw [hN] at hl
  rw [hN]
  clear hN
  have hl' : (N : Int) ≤ 201 := by omega
  go_enter Try.func79, Try.ntmps79
  go_wp2
  go_loopw [5] (fun i wr => ∃ m : Nat, i = .int .i64 m ∧ 1 ≤ m ∧ (m ≤ N ∨ m = 1) ∧ ApartTo xs m ∧ RowKit.Below w.heap.size w wr) (fun i _ => N - (intOf i).toNat)
  case atStart => exact ⟨1, rfl, Nat.le_refl _, .inr rfl, fun i j hi hj e hk => by omega, RowKit.Below.refl _ _⟩
  case round =>
    obtain ⟨m, rfl, hm1, hm, hord, hwr⟩ := hrel
    by_cases hlt : m < N
    · obtain ⟨k, hk⟩ : ∃ k : Nat, (m : Int) - 1 = k := ⟨m - 1, by omega⟩
      have HM : Hid (m = k + 1) := (by omega : m = k + 1)
      have hmx : m < xs.length := by rw [HN.out]; exact hlt
      have hkx : k < xs.length := by have := HM.out; omega
      obtain ⟨b, off, rfl, hb, c0, c1⟩ := h.at hwr m hmx
      obtain ⟨b', off', e, _, d0, d1⟩ := h.at hwr k hkx
      cases e
      obtain ⟨z, hz⟩ : ∃ z, cmpP xs[k] xs[m] = z := ⟨_, rfl⟩
      have hcon : ∀ W, Calls Try.prog 80 #[.agg #[.int .i64 xs[k].1, .int .i64 xs[k].2], .agg #[.int .i64 xs[m].1, .int .i64 xs[m].2]] W fun e w' => e = .returned (.int .i64 z) ∧ Grows W w' := by rw [← hz]; exact fun W => cmpP_any _ _ W
      have HZ : Hid (cmpP xs[k] xs[m] = z) := hz
      obtain ⟨p, q, hpq⟩ : ∃ p q, xs[m] = (p, q) := ⟨_, _, rfl⟩
      obtain ⟨r, t, hrt⟩ : ∃ r t, xs[k] = (r, t) := ⟨_, _, rfl⟩
      rw [hpq] at c0 c1 hcon
      rw [hrt] at d0 d1 hcon
      simp only at c0 c1 d0 d1 hcon
      have hwz := hwr.size
      have l0 := cell_in (Nat.lt_of_lt_of_le hb hwz) c0
      have l1 := cell_in (Nat.lt_of_lt_of_le hb hwz) c1
      have m0 := cell_in (Nat.lt_of_lt_of_le hb hwz) d0
      have m1 := cell_in (Nat.lt_of_lt_of_le hb hwz) d1
      clear hz hpq hrt c0 c1 d0 d1
      have i1 : (0 : Int) < m := by omega
      have i2 : (m : Int) < N := by omega
      have i3 : (0 : Int) ≤ k := by omega
      have i4 : (k : Int) < N := by omega
      have i5 : (m : Int) ≤ 201 := by omega
      have i6 : IntKind.i64.wrap (k : Int) = k := by simp [IntKind.wrap, IntKind.bits, IntKind.signed]; omega
      have HE : Hid (z = 0 ↔ xs[k].1 = xs[m].1) := by rw [← HZ.out]; exact cmp_zero _ _
      by_cases hneg : z = 0
      · have HE2 : Hid (xs[k].1 = xs[m].1) := HE.out.1 hneg
        subst hneg
        go_upto_region 4 with fail
        go_quiet_grown (first | (go_at_call 80; refine Calls.grown_of (hcon _)))
        go_wp2
        go_ret
        exact ⟨false, rfl, ⟨fun h => (by cases h), fun h => absurd HE2.out (h k m hkx hmx HM.out hmx)⟩, below_in hwr _ _ hwz⟩
      · have hneg' : (z == 0) = false := by simp [hneg]
        go_upto_region 4 with fail
        go_quiet_grown (first | (go_at_call 80; refine Calls.grown_of (hcon _)))
        go_wp2
        go_roundw
        case rel =>
          refine ⟨m + 1, by go_num, by omega, .inl (by omega), fun i j hi hj e hjm => ?_, below_in hwr _ _ hwz⟩
          by_cases e2 : j = m
          · subst e2
            have e3 : i = k := by have := HM.out; omega
            subst e3
            exact fun e => hneg (HE.out.2 e)
          · exact hord i j hi hj e (by omega)
        case measure => simp [intOf]; omega
    · have hlt' : ¬ (m : Int) < N := by omega
      go_wp2
      go_ret
      exact ⟨true, rfl, ⟨fun _ i j hi hj e _ => hord i j hi hj e (by rw [HN.out] at hj; omega), fun _ => rfl⟩, hwr⟩
end Go.Proofs.Ytdgefdjgpneanac
