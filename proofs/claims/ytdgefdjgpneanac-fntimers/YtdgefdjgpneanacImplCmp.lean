/- What cmp.Compare, cmp.Or and impl's two comparisons of timers answer, and that they only lay blocks of their own. -/
import Derived.Test.YtdgefdjgpneanacGrpC
import Derived.Sort.Grow
import Derived.Deep.RegionHeld3
import Derived.Deep.CutRange
import Derived.Deep.DeepCutAuto
namespace Go.Proofs.Ytdgefdjgpneanac
open Go.ChangeShapes Go.WideShapes Go.ChangeAt Go.RowKit Go.Sort
set_option linter.unusedVariables false
set_option maxRecDepth 100000

/-- Some draws on, some blocks behind. -/
def Grows (w w' : World) : Prop := ∃ q os, w' = grow (w.drewN q) os
theorem Grows.refl (w : World) : Grows w w := ⟨0, #[], by rw [grow_empty]; rfl⟩
theorem Grows.alloc {w w' : World} (h : Grows w w') (o : Obj) : Grows w (w'.alloc o) := by
  obtain ⟨q, os, rfl⟩ := h
  exact ⟨q, os ++ #[o], by rw [alloc_eq_grow, grow_grow]⟩
theorem Grows.drews {w w' : World} (h : Grows w w') (n : Nat) : Grows w (w'.drewN n) := by
  obtain ⟨q, os, rfl⟩ := h
  exact ⟨q + n, os, by show grow ((w.drewN q).drewN n) os = _; rw [World.drewN_drewN]⟩
theorem Grows.drew {w w' : World} (h : Grows w w') : Grows w w'.drew := h.drews 1
theorem Grows.trans {w x y : World} (h : Grows w x) (k : Grows x y) : Grows w y := by
  obtain ⟨q, os, rfl⟩ := h
  obtain ⟨q', os', rfl⟩ := k
  exact ⟨q + q', os ++ os', by show grow (grow ((w.drewN q).drewN q') os) os' = _; rw [grow_grow, World.drewN_drewN]⟩
theorem Grows.size {w w' : World} (h : Grows w w') : w.heap.size ≤ w'.heap.size := by
  obtain ⟨q, os, rfl⟩ := h
  rw [size_grow]
  exact Nat.le_add_right _ _
theorem Grows.below {w w' : World} (h : Grows w w') : Below w.heap.size w w' := by
  obtain ⟨q, os, rfl⟩ := h
  exact ⟨rfl, rfl, rfl, by rw [size_grow]; exact Nat.le_add_right _ _, fun k hk => heap_grow_old _ _ (by exact hk)⟩
theorem Grows.cell {w w' : World} (h : Grows w w') {b o : Nat} {v : Value} (hb : b < w.heap.size) (k : w.cell? ⟨b, o, none⟩ = some v) : w'.cell? ⟨b, o, none⟩ = some v := by
  obtain ⟨q, os, rfl⟩ := h
  exact (cell?_grow _ _ _ (by exact hb)).trans k
def cmpI (x y : Int) : Int := if x < y then -1 else if y < x then 1 else 0
theorem cmp_lt {x y : Int} (h : x < y) : cmpI x y = -1 := if_pos h
theorem cmp_gt {x y : Int} (h : y < x) : cmpI x y = 1 := by unfold cmpI; rw [if_neg (by omega), if_pos h]
theorem cmp_eq (x : Int) : cmpI x x = 0 := by unfold cmpI; rw [if_neg (by omega), if_neg (by omega)]
theorem cmp_neg (x y : Int) : cmpI x y < 0 ↔ x < y := by
  unfold cmpI
  by_cases h : x < y
  · simp [h]
  · by_cases k : y < x <;> simp [h, k]
theorem cmp_zero (x y : Int) : cmpI x y = 0 ↔ x = y := by
  unfold cmpI
  by_cases h : x < y
  · rw [if_pos h]; constructor
    · intro e; cases e
    · intro e; omega
  · by_cases k : y < x
    · rw [if_neg h, if_pos k]; constructor
      · intro e; cases e
      · intro e; omega
    · rw [if_neg h, if_neg k]; constructor
      · intro e; omega
      · intro e; rfl
theorem isNan_any (x : Int) (w : World) : Calls Try.prog 137 #[.int .i64 x] w fun e w' => e = .returned (.bool false) ∧ w' = w := by
  go_enter Try.func137, Try.ntmps137
  go_wp2
  go_ret
  exact ⟨rfl, rfl⟩
theorem compare_any (x y : Int) (w : World) : Calls Try.prog 117 #[.int .i64 x, .int .i64 y] w fun e w' => e = .returned (.int .i64 (cmpI x y)) ∧ w' = w := by
  rcases Int.lt_trichotomy x y with h | h | h
  · rw [cmp_lt h]
    go_enter Try.func117, Try.ntmps117
    go_wp2_with (go_at_call 137; refine (isNan_any _ _).mono ?_; rintro e w2 ⟨rfl, rfl⟩)
    go_ret
    exact ⟨rfl, rfl⟩
  · subst h
    rw [cmp_eq]
    go_enter Try.func117, Try.ntmps117
    go_wp2_with (go_at_call 137; refine (isNan_any _ _).mono ?_; rintro e w2 ⟨rfl, rfl⟩)
    go_ret
    exact ⟨rfl, rfl⟩
  · rw [cmp_gt h]
    have h' : ¬ x < y := by omega
    go_enter Try.func117, Try.ntmps117
    go_wp2_with (go_at_call 137; refine (isNan_any _ _).mono ?_; rintro e w2 ⟨rfl, rfl⟩)
    go_ret
    exact ⟨rfl, rfl⟩
def orI (x y : Int) : Int := if x = 0 then y else x
theorem or_any {w : World} {b : Nat} (x y : Int) (c0 : w.cell? ⟨b, 0, none⟩ = some (.int .i64 x)) (c1 : w.cell? ⟨b, 1, none⟩ = some (.int .i64 y)) :
    Calls Try.prog 116 #[.slice (some ⟨b, 0, none⟩) 2 2] w fun e w' => e = .returned (.int .i64 (orI x y)) ∧ w' = w := by
  by_cases h : x = 0
  · subst h
    show Calls Try.prog 116 _ w fun e w' => e = .returned (.int .i64 y) ∧ w' = w
    by_cases k : y = 0
    · subst k
      go_enter Try.func116, Try.ntmps116
      go_wp2
      refine wp_loop_rounds 3 ?_
      rw [rounds_succ]
      go_wp2
      rw [rounds_succ]
      go_wp2
      rw [rounds_succ]
      go_wp2
      go_ret
      exact ⟨rfl, rfl⟩
    · have k' : (y == 0) = false := by simp [k]
      go_enter Try.func116, Try.ntmps116
      go_wp2
      refine wp_loop_rounds 2 ?_
      rw [rounds_succ]
      go_wp2
      rw [rounds_succ]
      go_wp2
      go_ret
      exact ⟨rfl, rfl⟩
  · have e : orI x y = x := if_neg h
    rw [e]
    have h' : (x == 0) = false := by simp [h]
    clear e
    go_enter Try.func116, Try.ntmps116
    go_wp2
    refine wp_loop_rounds 1 ?_
    rw [rounds_succ]
    go_wp2
    go_ret
    exact ⟨rfl, rfl⟩
theorem byId_any (p q : Int × Int) (w : World) : Calls Try.prog 80 #[.agg #[.int .i64 p.1, .int .i64 p.2], .agg #[.int .i64 q.1, .int .i64 q.2]] w fun e w' => e = .returned (.int .i64 (cmpI p.1 q.1)) ∧ Grows w w' := by
  obtain ⟨a, b⟩ := p
  obtain ⟨c, d⟩ := q
  simp only
  generalize hr : cmpI a c = r
  have hcon : ∀ W, Calls Try.prog 117 #[.int .i64 a, .int .i64 c] W fun e w' => e = .returned (.int .i64 r) ∧ w' = W := by rw [← hr]; exact fun W => compare_any a c W
  clear hr
  go_enter Try.func80, Try.ntmps80
  go_wp2_with (go_at_call 117; refine (hcon _).mono ?_; rintro e w2 ⟨rfl, rfl⟩)
  go_ret
  exact ⟨rfl, ((Grows.refl _).alloc _).alloc _⟩
def byT (p q : Int × Int) : Int := orI (cmpI p.2 q.2) (cmpI p.1 q.1)
set_option maxHeartbeats 2000000 in
theorem byTime_any (p q : Int × Int) (w : World) : Calls Try.prog 73 #[.agg #[.int .i64 p.1, .int .i64 p.2], .agg #[.int .i64 q.1, .int .i64 q.2]] w fun e w' => e = .returned (.int .i64 (byT p q)) ∧ Grows w w' := by
  unfold byT
  have hid := fun W => byId_any p q W
  obtain ⟨a, b⟩ := p
  obtain ⟨c, d⟩ := q
  simp only at hid ⊢
  generalize cmpI a c = r at hid ⊢
  generalize hs : cmpI b d = s
  have hcon : ∀ W, Calls Try.prog 117 #[.int .i64 b, .int .i64 d] W fun e w' => e = .returned (.int .i64 s) ∧ w' = W := by rw [← hs]; exact fun W => compare_any b d W
  clear hs
  go_enter Try.func73, Try.ntmps73
  go_upto_region 1 with fail
  obtain ⟨va, hv⟩ : ∃ v, v = (w.alloc (.cells #[.int .i64 a, .int .i64 b] 87)).alloc (.cells #[.int .i64 c, .int .i64 d] 87) := ⟨_, rfl⟩
  rw [← hv]
  have G : Hid (Grows w va) := by rw [hv]; exact ((Grows.refl _).alloc _).alloc _
  have k0 : va.cell? ⟨w.heap.size, 0, none⟩ = some (.int .i64 a) := by rw [hv]; go_simp
  have k1 : va.cell? ⟨w.heap.size, 1, none⟩ = some (.int .i64 b) := by rw [hv]; go_simp
  have k2 : va.cell? ⟨w.heap.size + 1, 0, none⟩ = some (.int .i64 c) := by rw [hv]; go_simp
  have k3 : va.cell? ⟨w.heap.size + 1, 1, none⟩ = some (.int .i64 d) := by rw [hv]; go_simp
  have z : w.heap.size + 1 < va.heap.size := by rw [hv]; simp
  have Z : Hid (w.heap.size + 1 < va.heap.size) := z
  clear hv z
  go_region_held3 (fun w' => w'.cell? ⟨w.heap.size, 0, none⟩ = some (.int .i64 a) ∧ w'.cell? ⟨w.heap.size, 1, none⟩ = some (.int .i64 b) ∧ w'.cell? ⟨w.heap.size + 1, 0, none⟩ = some (.int .i64 c) ∧ w'.cell? ⟨w.heap.size + 1, 1, none⟩ = some (.int .i64 d)) (first | (refine ⟨?_, ?_, ?_, ?_⟩ <;> first | assumption | (simp only [World.cell?_drew]; assumption)) | go_keep)
    (first
      | (go_at_call 117; refine (hcon _).mono ?_; rintro e w2 ⟨rfl, rfl⟩)
      | (go_at_call 80; refine (hid _).mono ?_; rintro e w2 ⟨rfl, hg⟩; have G2 : Hid (Grows va w2) := (Grows.refl va).drew.trans hg; have k0 := G2.out.cell (Nat.lt_of_succ_lt Z.out) k0; have k1 := G2.out.cell (Nat.lt_of_succ_lt Z.out) k1; have k2 := G2.out.cell Z.out k2; have k3 := G2.out.cell Z.out k3; clear hg)
      | (go_at_call 116; refine (or_any (w := w2.alloc (.cells #[.int .i64 s, .int .i64 r] 3)) s r (by go_simp) (by go_simp)).mono ?_; rintro e w3 ⟨rfl, rfl⟩))
  go_wp2
  go_ret
  exact ⟨rfl, (G.out.trans G2.out).alloc _⟩
end Go.Proofs.Ytdgefdjgpneanac
