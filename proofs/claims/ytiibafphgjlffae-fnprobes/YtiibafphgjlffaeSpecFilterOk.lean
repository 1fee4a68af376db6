/- What spec.FilterOk answers. -/
import Derived.Test.YtiibafphgjlffaeSpecFilter
namespace Go.Proofs.Ytiibafphgjlffae
open Go.ChangeShapes Go.WideShapes Go.ChangeAt Go.RowKit
set_option maxRecDepth 100000
set_option linter.unusedVariables false

def smpB (x : Int × Int) : Bool := timeB x.1 && rateB x.2
def stepB (most : Bool) (p s : Int × Int) : Bool := decide (p.1 < s.1) && (if most = true then decide (s.2 < p.2) else decide (p.2 < s.2))
/-- The first k are right. -/
def OkTo (most : Bool) (xs : List (Int × Int)) (k : Nat) : Prop := ∀ i (h : i < xs.length), i < k → smpB xs[i] = true ∧ (∀ j (hj : j < xs.length), j + 1 = i → stepB most xs[j] xs[i] = true)
def FOk (most : Bool) (xs : List (Int × Int)) : Prop := xs.length ≤ 100 ∧ OkTo most xs xs.length
theorem OkTo.next {most : Bool} {xs : List (Int × Int)} {k : Nat} (h : OkTo most xs k) (hk : k < xs.length) (hs : smpB xs[k] = true) (hj : ∀ j (hj : j < xs.length), j + 1 = k → stepB most xs[j] xs[k] = true) : OkTo most xs (k + 1) := by
  intro i hi hik
  by_cases e : i = k
  · subst e; exact ⟨hs, hj⟩
  · exact h i hi (by omega)
theorem step_cases (most : Bool) (r s p q : Int) : (p ≤ r ∧ stepB most (r, s) (p, q) = false) ∨ (r < p ∧ most = true ∧ s ≤ q ∧ stepB most (r, s) (p, q) = false) ∨ (r < p ∧ most = true ∧ q < s ∧ stepB most (r, s) (p, q) = true) ∨
    (r < p ∧ most = false ∧ q ≤ s ∧ stepB most (r, s) (p, q) = false) ∨ (r < p ∧ most = false ∧ s < q ∧ stepB most (r, s) (p, q) = true) := by
  unfold stepB
  by_cases h : r < p
  · cases most
    · by_cases h2 : s < q
      · exact .inr (.inr (.inr (.inr ⟨h, rfl, h2, by simp [h, h2]⟩)))
      · exact .inr (.inr (.inr (.inl ⟨h, rfl, by omega, by simp [h2]⟩)))
    · by_cases h2 : q < s
      · exact .inr (.inr (.inl ⟨h, rfl, h2, by simp [h, h2]⟩))
      · exact .inr (.inl ⟨h, rfl, by omega, by simp [h2]⟩)
  · exact .inl ⟨by omega, by simp [h]⟩
def OkPost (most : Bool) (xs : List (Int × Int)) (w : World) (e : Ending) (w' : World) : Prop := ∃ f : Bool, e = .returned (.bool f) ∧ (f = true ↔ FOk most xs) ∧ Below w.heap.size w w'
theorem OkPost.no {most : Bool} {xs : List (Int × Int)} {w w' : World} (h : ¬ FOk most xs) (hb : Below w.heap.size w w') : OkPost most xs w (.returned (.bool false)) w' := ⟨false, rfl, ⟨fun h => (by cases h), fun k => absurd k h⟩, hb⟩
theorem OkPost.yes {most : Bool} {xs : List (Int × Int)} {w w' : World} (h : FOk most xs) (hb : Below w.heap.size w w') : OkPost most xs w (.returned (.bool true)) w' := ⟨true, rfl, ⟨fun _ => h, fun _ => rfl⟩, hb⟩
theorem smp_any (p q : Int) (w : World) : Calls Try.prog 131 #[.agg #[.int .i64 p, .int .i64 q]] w fun e w' => e = .returned (.bool (smpB (p, q))) ∧ Below w.heap.size w w' := by
  show Calls _ _ _ _ fun e w' => e = .returned (.bool (timeB p && rateB q)) ∧ Below w.heap.size w w'
  cases h1 : timeB p <;> cases h2 : rateB q
  all_goals
    go_enter Try.func131, Try.ntmps131
    go_wp2_with (first | (go_at_call 73; refine (time_any _ _).mono ?_; rintro e w2 ⟨rfl, rfl⟩) | (go_at_call 95; refine (rate_any _ _).mono ?_; rintro e w2 ⟨rfl, rfl⟩) | go_in)
    go_ret
    exact ⟨rfl, by go_grown⟩
theorem lt_of_alloc {w w' : World} {o : Obj} (h : Below (w.alloc o).heap.size (w.alloc o) w') : w.heap.size < w'.heap.size := by
  have := h.size
  simp at this
  omega
set_option maxHeartbeats 2000000 in
theorem specFilterOk_any {w : World} {a : Option Addr} (cap : Nat) {xs : List (Int × Int)} (most : Bool) (h : Smp w.heap.size w a xs) :
    Calls Try.prog 101 #[.agg #[.slice a xs.length cap], .bool most] w (OkPost most xs w) := by
  by_cases hl : xs.length ≤ 100
  · have hl' : (xs.length : Int) ≤ 100 := by omega
    have cp : (w.alloc (.cells #[.slice a xs.length cap] 51)).cell? ⟨w.heap.size, 0, none⟩ = some (.slice a xs.length cap) := by go_simp
    go_enter Try.func101, Try.ntmps101
    go_wp2
    go_loopw [5] (fun i wr => ∃ k : Nat, i = .int .i64 k ∧ k ≤ xs.length ∧ OkTo most xs k ∧ Below (w.alloc (.cells #[.slice a xs.length cap] 51)).heap.size (w.alloc (.cells #[.slice a xs.length cap] 51)) wr) (fun i _ => xs.length - (intOf i).toNat)
    case atStart => exact ⟨0, rfl, by omega, fun i h hk => by omega, Below.refl _ _⟩
    case round =>
      obtain ⟨k, rfl, hk, hok, hp⟩ := hrel
      have s2 := (below_cells hp _ _ (by simp)).trans cp
      have hbw : Below w.heap.size w wr := below_step (new_below _ _) hp
      by_cases hlt : k < xs.length
      · obtain ⟨b, off, rfl, hb, c0, c1⟩ := h.at hbw k hlt
        have hlt' : (k : Int) < (xs.length : Int) := by omega
        obtain ⟨x, hx⟩ : ∃ x, xs[k] = x := ⟨_, rfl⟩
        rw [hx] at c0 c1
        obtain ⟨p, q⟩ := x
        have HX : Hid (xs[k] = (p, q)) := hx
        clear hx
        simp only at c0 c1
        cases hs : smpB (p, q)
        · go_wp2_with (first
            | (go_at_call 131; refine (smp_any _ _ _).mono ?_; rintro e w2 ⟨rfl, hb2⟩; rw [hs]; have hpn := below_next hp (by go_grown) hb2; have hbn := below_next hbw (by go_grown) hb2))
          go_ret
          exact OkPost.no (fun h => (by
            have := (h.2 k hlt hlt).1
            rw [HX.out, hs] at this
            cases this)) hbn
        · cases k with
          | zero =>
            rw [Nat.zero_mul, Nat.add_zero] at c0 c1
            have hlt'' : (0 : Int) < (xs.length : Int) := by omega
            clear hlt'
            go_wp2_with (first
              | (go_at_call 131; refine (smp_any _ _ _).mono ?_; rintro e w2 ⟨rfl, hb2⟩; rw [hs]; have hpn := below_next hp (by go_grown) hb2; have hbn := below_next hbw (by go_grown) hb2))
            go_roundw
            case rel => exact ⟨1, rfl, by omega, hok.next hlt (by rw [HX.out]; exact hs) (fun j _ h => by omega), hpn⟩
            case measure => first | (simp [intOf]; done) | (simp [intOf]; omega)
          | succ j =>
            have d := fun w' hb => h.cells (w' := w') hb j (by omega)
            obtain ⟨y, hy⟩ : ∃ y, xs[j] = y := ⟨_, rfl⟩
            rw [hy] at d
            obtain ⟨r, s⟩ := y
            have HY : Hid (xs[j] = (r, s)) := hy
            have HJ : Hid (∀ w', Below w.heap.size w w' → w'.cell? ⟨b, off + j * 2, none⟩ = some (.int .i64 r) ∧ w'.cell? ⟨b, off + j * 2 + 1, none⟩ = some (.int .i64 s)) := d
            clear hy d
            have hj : ((j : Int) + 1 == 0) = false := by simp; omega
            have hj0 : (0 : Int) ≤ (j : Int) := by omega
            have hj1 : (j : Int) < (xs.length : Int) := by omega
            rcases step_cases most r s p q with ⟨t1, hst⟩ | ⟨t1, rfl, t2, hst⟩ | ⟨t1, rfl, t2, hst⟩ | ⟨t1, rfl, t2, hst⟩ | ⟨t1, rfl, t2, hst⟩
            · have HS : Hid (stepB most (r, s) (p, q) = false) := hst
              clear hst
              go_wp2_with (first
                | (go_at_call 131; refine (smp_any _ _ _).mono ?_; rintro e w2 ⟨rfl, hb2⟩; rw [hs]; have hpn := below_next hp (by go_grown) hb2; have hbn := below_next hbw (by go_grown) hb2; have zb := hbn.size; have zp := hpn.size; have kc := below_cells hb2; have kf := below_frozens hb2; have s3 := (below_cells hpn _ _ (by simp)).trans cp; obtain ⟨d0, d1⟩ := HJ.out w2 hbn; have hne : wr.heap.size < w2.heap.size := lt_of_alloc hb2))
              go_ret
              exact OkPost.no (fun h => (by
                have := (h.2 (j + 1) hlt hlt).2 j (by omega) rfl
                rw [HX.out, HY.out, HS.out] at this
                cases this)) (by go_grown)
            · have HS : Hid (stepB true (r, s) (p, q) = false) := hst
              clear hst
              go_wp2_with (first
                | (go_at_call 131; refine (smp_any _ _ _).mono ?_; rintro e w2 ⟨rfl, hb2⟩; rw [hs]; have hpn := below_next hp (by go_grown) hb2; have hbn := below_next hbw (by go_grown) hb2; have zb := hbn.size; have zp := hpn.size; have kc := below_cells hb2; have kf := below_frozens hb2; have s3 := (below_cells hpn _ _ (by simp)).trans cp; obtain ⟨d0, d1⟩ := HJ.out w2 hbn; have hne : wr.heap.size < w2.heap.size := lt_of_alloc hb2))
              go_ret
              exact OkPost.no (fun h => (by
                have := (h.2 (j + 1) hlt hlt).2 j (by omega) rfl
                rw [HX.out, HY.out, HS.out] at this
                cases this)) (by go_grown)
            · have HS : Hid (stepB true (r, s) (p, q) = true) := hst
              clear hst
              go_wp2_with (first
                | (go_at_call 131; refine (smp_any _ _ _).mono ?_; rintro e w2 ⟨rfl, hb2⟩; rw [hs]; have hpn := below_next hp (by go_grown) hb2; have hbn := below_next hbw (by go_grown) hb2; have zb := hbn.size; have zp := hpn.size; have kc := below_cells hb2; have kf := below_frozens hb2; have s3 := (below_cells hpn _ _ (by simp)).trans cp; obtain ⟨d0, d1⟩ := HJ.out w2 hbn; have hne : wr.heap.size < w2.heap.size := lt_of_alloc hb2))
              go_roundw
              case rel => exact ⟨j + 2, by go_num, by omega, hok.next hlt (by rw [HX.out]; exact hs) (fun i hi h => by obtain rfl : i = j := (by omega); rw [HX.out, HY.out]; exact HS.out), by go_grown⟩
              case measure => first | (simp [intOf]; done) | (simp [intOf]; omega)
            · have HS : Hid (stepB false (r, s) (p, q) = false) := hst
              clear hst
              go_wp2_with (first
                | (go_at_call 131; refine (smp_any _ _ _).mono ?_; rintro e w2 ⟨rfl, hb2⟩; rw [hs]; have hpn := below_next hp (by go_grown) hb2; have hbn := below_next hbw (by go_grown) hb2; have zb := hbn.size; have zp := hpn.size; have kc := below_cells hb2; have kf := below_frozens hb2; have s3 := (below_cells hpn _ _ (by simp)).trans cp; obtain ⟨d0, d1⟩ := HJ.out w2 hbn; have hne : wr.heap.size < w2.heap.size := lt_of_alloc hb2))
              go_ret
              exact OkPost.no (fun h => (by
                have := (h.2 (j + 1) hlt hlt).2 j (by omega) rfl
                rw [HX.out, HY.out, HS.out] at this
                cases this)) (by go_grown)
            · have HS : Hid (stepB false (r, s) (p, q) = true) := hst
              clear hst
              go_wp2_with (first
                | (go_at_call 131; refine (smp_any _ _ _).mono ?_; rintro e w2 ⟨rfl, hb2⟩; rw [hs]; have hpn := below_next hp (by go_grown) hb2; have hbn := below_next hbw (by go_grown) hb2; have zb := hbn.size; have zp := hpn.size; have kc := below_cells hb2; have kf := below_frozens hb2; have s3 := (below_cells hpn _ _ (by simp)).trans cp; obtain ⟨d0, d1⟩ := HJ.out w2 hbn; have hne : wr.heap.size < w2.heap.size := lt_of_alloc hb2))
              go_roundw
              case rel => exact ⟨j + 2, by go_num, by omega, hok.next hlt (by rw [HX.out]; exact hs) (fun i hi h => by obtain rfl : i = j := (by omega); rw [HX.out, HY.out]; exact HS.out), by go_grown⟩
              case measure => first | (simp [intOf]; done) | (simp [intOf]; omega)
      · have e : k = xs.length := by omega
        subst e
        go_wp2
        go_ret
        exact OkPost.yes ⟨hl, hok⟩ hbw
  · have hl' : (100 : Int) < (xs.length : Int) := by omega
    go_enter Try.func101, Try.ntmps101
    go_wp2
    go_ret
    exact OkPost.no (fun h => hl h.1) (by go_grown)
end Go.Proofs.Ytiibafphgjlffae
