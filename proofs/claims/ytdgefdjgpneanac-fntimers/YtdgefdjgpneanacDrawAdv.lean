/- The draw of a wheel and a time. -/
import Derived.Test.YtdgefdjgpneanacDrawWb
namespace Go.Proofs.Ytdgefdjgpneanac
open Go.ChangeShapes Go.WideShapes Go.ChangeAt Go.RowKit
set_option maxRecDepth 100000
set_option linter.unusedVariables false
set_option linter.unusedSimpArgs false

/-- While a wheel and a time are drawn: block w.heap.size, the answer's; b, the cursor; V, the wheel. -/
structure ASt (B : Nat) (a0 : Option Addr) (len cap b : Nat) (w wr : World) (V : Nat) (t : Int) (ua : Option Addr) (un uc : Nat) (L : List (Int × Int)) : Prop where
  cur : Cur B a0 len cap b wr
  ne : w.heap.size < b
  lb : b < V
  hi : V < wr.heap.size
  r0 : wr.cell? ⟨w.heap.size, 0, none⟩ = some (.int .i64 0)
  r1 : wr.cell? ⟨w.heap.size, 1, none⟩ = some (.slice none 0 0)
  rF : ∀ o : Nat, wr.frozen? ⟨w.heap.size, o, none⟩ = false
  c0 : wr.cell? ⟨V, 0, none⟩ = some (.int .i64 t)
  c1 : wr.cell? ⟨V, 1, none⟩ = some (.slice ua un uc)
  own : wr.ownsRow (b + 1) 87 2 (.slice ua un uc) L.length (flat L)
  hb : Below w.heap.size w wr
theorem ASt.draw {B : Nat} {a0 : Option Addr} {len cap b : Nat} {w wr : World} {V : Nat} {t : Int} {ua : Option Addr} {un uc : Nat} {L : List (Int × Int)} (d : ASt B a0 len cap b w wr V t ua un uc L) {w2 : World} (o : Only b wr w2) (k : Cur B a0 len cap b w2) : ASt B a0 len cap b w w2 V t ua un uc L := by
  have l1 := d.ne
  have l2 := d.lb
  have l3 := d.hi
  exact ⟨k, l1, l2, Nat.lt_of_lt_of_le l3 o.size, (o.cell (by show w.heap.size < _; omega) (by show w.heap.size ≠ b; omega)).trans d.r0, (o.cell (by show w.heap.size < _; omega) (by show w.heap.size ≠ b; omega)).trans d.r1, fun i => (o.frozen (by show w.heap.size < _; omega) (by show w.heap.size ≠ b; omega)).trans (d.rF i),
    (o.cell (by show V < _; omega) (by show V ≠ b; omega)).trans d.c0, (o.cell (by show V < _; omega) (by show V ≠ b; omega)).trans d.c1, row_only d.own o (by omega), d.hb.trans (o.below (by omega) (by omega))⟩
theorem ASt.next {B : Nat} {a0 : Option Addr} {len cap b : Nat} {w wr : World} {V : Nat} {t : Int} {ua : Option Addr} {un uc : Nat} {L : List (Int × Int)} (d : ASt B a0 len cap b w wr V t ua un uc L) {w2 : World} (h : Below wr.heap.size wr w2) : ASt B a0 len cap b w w2 V t ua un uc L := d.draw (Only.of_below h) (d.cur.mono h)
theorem lateTab_in (t : Int) (ht : -2 ≤ t ∧ t ≤ 1000000000000200) (X : Nat) (h : X < 4) : ∃ y : Int, (#[Value.int IntKind.i64 (-1), Value.int IntKind.i64 (t - 1), Value.int IntKind.i64 1000000000000000, Value.int IntKind.i64 1000000000000001] : Array Value)[X]? = some (.int .i64 y) ∧ -10 ≤ y ∧ y ≤ 1000000000001000 := by
  match X, h with
  | 0, _ => exact ⟨_, rfl, by omega, by omega⟩
  | 1, _ => exact ⟨_, rfl, by omega, by omega⟩
  | 2, _ => exact ⟨_, rfl, by omega, by omega⟩
  | 3, _ => exact ⟨_, rfl, by omega, by omega⟩
def AdvDraw (w : World) (e : Ending) (w' : World) : Prop := ∃ t a n c L m, e = .returned (.tuple #[.agg #[.int .i64 t, .slice a n c], .int .i64 m]) ∧ FW w' w.heap.size (.slice a n c) L ∧ L.length ≤ 210 ∧ (-2 ≤ t ∧ t ≤ 1000000000000200) ∧ (-10 ≤ m ∧ m ≤ 1000000000001000) ∧ Below w.heap.size w w'
set_option maxHeartbeats 8000000 in
theorem drawAdvance_any {B : Nat} {a0 : Option Addr} {len : Nat} (cap : Nat) {w : World} (hs : len ≤ 4096) (row : Row B a0 len w) (hB : B ≤ w.heap.size) :
    Calls Try.prog 25 #[.slice a0 len cap] w (AdvDraw w) := by
  go_enter Try.func25, Try.ntmps25
  go_upto_region 3 with (first
    | (go_at_call 50; refine (new_any cap hs (row.mono ((Below.refl B w).alloc hB _)) (by simp; omega)).mono ?_; rintro e w1 ⟨b, rfl, hb, k1, hb1⟩; have hb' : w.heap.size < b := (by simp at hb; omega))
    | (go_at_call 67; refine (l5Draw_acc k1).mono ?_; rintro e w2 ⟨t, ua, un, uc, L, rfl, hrow, hL, htb, k2, o2⟩))
  have D : Hid (ASt B a0 len cap b w (w2.alloc (.cells #[.int .i64 t, .slice ua un uc] 36)) w2.heap.size t ua un uc L) := by
    have hb2 := k1.hi
    have hs1 := hb1.size
    simp only [World.size_alloc] at hs1
    have hs2 := o2.size
    have hr : Below w2.heap.size w2 (w2.alloc (.cells #[.int .i64 t, .slice ua un uc] 36)) := new_below _ _
    have c := below_cells hr
    have f := below_frozens hr
    have q := below_cells hb1
    have qf := below_frozens hb1
    have z1 : ∀ i : Nat, w2.cell? ⟨w.heap.size, i, none⟩ = w1.cell? ⟨w.heap.size, i, none⟩ := fun i => o2.cell (by show w.heap.size < _; omega) (by show w.heap.size ≠ b; omega)
    have z2 : ∀ i : Nat, w2.frozen? ⟨w.heap.size, i, none⟩ = w1.frozen? ⟨w.heap.size, i, none⟩ := fun i => o2.frozen (by show w.heap.size < _; omega) (by show w.heap.size ≠ b; omega)
    exact ⟨k2.alloc _, hb', k2.hi, by simp, (c _ _ (by omega)).trans ((z1 0).trans ((q _ _ (by simp)).trans (by go_simp))), (c _ _ (by omega)).trans ((z1 1).trans ((q _ _ (by simp)).trans (by go_simp))), fun i => (f _ _ (by omega)).trans ((z2 i).trans ((qf _ _ (by simp)).trans (by go_simp))),
      by go_simp, by go_simp, row_low (row_next hrow hr) (by omega), below_step (below_step (w := w) (by go_grown) hb1 |>.trans (o2.below (by omega) (by omega))) hr⟩
  clear hrow k2 o2 hb1 k1
  have c0 := D.out.c0
  have nV : w2.heap.size ≠ b := by have := D.out.lb; omega
  obtain ⟨wr, hwr⟩ : ∃ wr, wr = w2.alloc (.cells #[.int .i64 t, .slice ua un uc] 36) := ⟨_, rfl⟩
  rw [← hwr] at D c0 ⊢
  clear hwr
  generalize w2.heap.size = V at *
  go_cut [6] from 11 (fun s wd => ∃ m, s = .int .i64 m ∧ (-10 ≤ m ∧ m ≤ 1000000000001000) ∧ ASt B a0 len cap b w wd V t ua un uc L)
  case first =>
    go_region_held3 (fun w' => w'.cell? ⟨V, 0, none⟩ = some (.int .i64 t)) (first | assumption | (simp only [World.cell?_drew]; assumption) | go_keep)
      (first
        | (go_at_call 68; refine (below_acc 350 (D.out.next (Below.refl _ _).drew).cur (Only.refl _ _) (by omega) (by omega)).mono ?_; rintro e vB ⟨y, rfl, hy, kB, oB⟩; have dB : Hid (ASt B a0 len cap b w vB V t ua un uc L) := (D.out.next (Below.refl _ _).drew).draw oB kB; have j0 := dB.out.c0; have ew : IntKind.i64.wrap (t + y) = t + y := (by rw [IntKind.wrap_i64]; omega)))
    all_goals (repeat go_step)
    all_goals go_meet
    all_goals exact ⟨_, rfl, by omega, dB.out⟩
  case rest =>
  clear D c0
  obtain ⟨m, rfl, hm, d⟩ := hcut
  have D : Hid (ASt B a0 len cap b w wc V t ua un uc L) := d
  clear d
  go_upto_if 17 with (first
    | (go_at_call 69; refine (once_acc 14 D.out.cur (Only.refl _ _) (by omega) (by omega)).mono ?_; rintro e vO ⟨fO, rfl, kO, oO⟩; have D : Hid (ASt B a0 len cap b w vO V t ua un uc L) := D.out.draw oO kO; have c0 := D.out.c0))
  go_cut [6] from 16 (fun s wd => ∃ m, s = .int .i64 m ∧ (-10 ≤ m ∧ m ≤ 1000000000001000) ∧ ASt B a0 len cap b w wd V t ua un uc L)
  case first =>
    cases fO
    · go_wp2
      go_meet
      exact ⟨_, rfl, hm, D.out⟩
    · have e1 : IntKind.i64.wrap (t - 1) = t - 1 := by rw [IntKind.wrap_i64]; omega
      have hVs := D.out.hi
      have n0 : vO.heap.size ≠ V := by omega
      have n1 : V ≠ vO.heap.size := by omega
      go_wp2
      refine region_late (S := fun w' => w'.cell? ⟨V, 0, none⟩ = some (.int .i64 t)) 8 (by kernel_rfl) (by go_simp) (fun hS => ?_)
      refine late_take (i := 0) (v := ?_) rfl (by kernel_rfl) (by kernel_rfl) (by kernel_rfl) (by kernel_rfl) (fun _ _ _ h => h) (Or.inl ⟨by rfl, ?_⟩) (by assumption) ?_
      rotate_left 1
      · (intro w' hSw; (try dsimp only at hSw); go_simp; try with_reducible rfl)
      try simp only [Act.put, List.setIfInBounds_toArray, List.set_cons_zero, List.set_cons_succ, List.getElem_toArray, List.getElem_cons_succ, List.getElem_cons_zero]
      refine late_take (i := 1) (v := ?_) rfl (by kernel_rfl) (by kernel_rfl) (by kernel_rfl) (by kernel_rfl) (fun _ _ _ h => h) (Or.inl ⟨by rfl, ?_⟩) (by assumption) ?_
      rotate_left 1
      · (intro w' hSw; (try dsimp only at hSw); go_simp; try with_reducible rfl)
      try simp only [Act.put, List.setIfInBounds_toArray, List.set_cons_zero, List.set_cons_succ, List.getElem_toArray, List.getElem_cons_succ, List.getElem_cons_zero]
      refine late_take (i := 2) (v := ?_) rfl (by kernel_rfl) (by kernel_rfl) (by kernel_rfl) (by kernel_rfl) (fun _ _ _ h => h) (Or.inl ⟨by rfl, ?_⟩) (by assumption) ?_
      rotate_left 1
      · (intro w' hSw; (try dsimp only at hSw); go_simp; try with_reducible rfl)
      try simp only [Act.put, List.setIfInBounds_toArray, List.set_cons_zero, List.set_cons_succ, List.getElem_toArray, List.getElem_cons_succ, List.getElem_cons_zero]
      refine late_take (i := 4) (v := ?_) rfl (by kernel_rfl) (by kernel_rfl) (by kernel_rfl) (by kernel_rfl) (fun _ _ _ h => h) (Or.inl ⟨by rfl, ?_⟩) (by assumption) ?_
      rotate_left 1
      · (intro w' hSw; (try dsimp only at hSw); go_simp; try with_reducible rfl)
      try simp only [Act.put, List.setIfInBounds_toArray, List.set_cons_zero, List.set_cons_succ, List.getElem_toArray, List.getElem_cons_succ, List.getElem_cons_zero]
      refine late_two (i := 3) (j := 5) (by kernel_rfl) rfl rfl (fun K hK => ?_) (fun K hK => ?_)
      · go_simp
        have DA : Hid (ASt B a0 len cap b w (vO.drew.alloc (.cells #[.int .i64 (-1), .int .i64 (t - 1), .int .i64 1000000000000000, .int .i64 1000000000000001] 2)) V t ua un uc L) := (D.out.next (Below.refl _ _).drew).next (new_below _ _)
        refine hK.out _ _ (DA.out.c0) (fun hS => ?_)
        try simp only [Act.put, List.setIfInBounds_toArray, List.set_cons_zero, List.set_cons_succ, List.getElem_toArray, List.getElem_cons_succ, List.getElem_cons_zero]
        refine late_one (i := 5) (by kernel_rfl) rfl (fun K hK => ?_)
        go_simp
        (refine (below_acc 4 DA.out.cur (Only.refl _ _) (by omega) (by omega)).mono ?_; rintro e vT ⟨x4, rfl, hx4, kT, oT⟩; have D2 : Hid (ASt B a0 len cap b w vT V t ua un uc L) := DA.out.draw oT kT; obtain ⟨X, rfl⟩ := Int.eq_ofNat_of_zero_le hx4.1; have hX : X < 4 := (by omega); have hXi : (X : Int) < 4 := (by omega); obtain ⟨y, hy, hy0, hy1⟩ := lateTab_in t htb X hX; have hcell : vT.cell? ⟨vO.heap.size, X, none⟩ = some (.int .i64 y) := (table_cell (w := vO.drew) (D.out.next (Below.refl _ _).drew).cur.hi oT X).trans hy; have DZ := D2; have hS := D2.out.c0; simp only [])
        refine hK.out _ _ (by assumption) (fun _ => ?_)
        try simp only [Act.put, List.setIfInBounds_toArray, List.set_cons_zero, List.set_cons_succ, List.getElem_toArray, List.getElem_cons_succ, List.getElem_cons_zero]
        refine late_take (i := 6) (v := ?_) rfl (by kernel_rfl) (by kernel_rfl) (by kernel_rfl) (by kernel_rfl) (fun _ _ _ h => h) (Or.inl ⟨by rfl, ?_⟩) (by assumption) ?_
        rotate_left 1
        · (intro w' hSw; (try dsimp only at hSw); go_simp; try with_reducible rfl)
        try simp only [Act.put, List.setIfInBounds_toArray, List.set_cons_zero, List.set_cons_succ, List.getElem_toArray, List.getElem_cons_succ, List.getElem_cons_zero]
        refine late_one (i := 7) (by kernel_rfl) rfl (fun K hK => ?_)
        go_simp
        refine hK.out _ _ (by assumption) (fun _ => ?_)
        try simp only [Act.put, List.setIfInBounds_toArray, List.set_cons_zero, List.set_cons_succ, List.getElem_toArray, List.getElem_cons_succ, List.getElem_cons_zero]
        refine late_last (by kernel_rfl) rfl (by kernel_rfl) (fun K hK => ?_)
        go_simp
        refine hK.out _ _ ?_
        try simp only [Act.put, List.setIfInBounds_toArray, List.set_cons_zero, List.set_cons_succ, List.getElem_toArray, List.getElem_cons_succ, List.getElem_cons_zero]
        repeat go_step
        go_meet
        exact ⟨_, rfl, ⟨hy0, hy1⟩, DZ.out⟩
      · go_simp
        (refine (below_acc 4 (D.out.next (Below.refl _ _).drew).cur (Only.refl _ _) (by omega) (by omega)).mono ?_; rintro e vT ⟨x4, rfl, hx4, kT, oT⟩; have D2 : Hid (ASt B a0 len cap b w vT V t ua un uc L) := (D.out.next (Below.refl _ _).drew).draw oT kT; obtain ⟨X, rfl⟩ := Int.eq_ofNat_of_zero_le hx4.1; have hX : X < 4 := (by omega); have hXi : (X : Int) < 4 := (by omega); obtain ⟨y, hy, hy0, hy1⟩ := lateTab_in t htb X hX; have hS := D2.out.c0; simp only [])
        refine hK.out _ _ (by assumption) (fun _ => ?_)
        try simp only [Act.put, List.setIfInBounds_toArray, List.set_cons_zero, List.set_cons_succ, List.getElem_toArray, List.getElem_cons_succ, List.getElem_cons_zero]
        refine late_one (i := 3) (by kernel_rfl) rfl (fun K hK => ?_)
        go_simp
        have DA : Hid (ASt B a0 len cap b w (vT.alloc (.cells #[.int .i64 (-1), .int .i64 (t - 1), .int .i64 1000000000000000, .int .i64 1000000000000001] 2)) V t ua un uc L) := D2.out.next (new_below _ _)
        have hcell : (vT.alloc (.cells #[.int .i64 (-1), .int .i64 (t - 1), .int .i64 1000000000000000, .int .i64 1000000000000001] 2)).cell? ⟨vT.heap.size, X, none⟩ = some (.int .i64 y) := (World.cell?_alloc_at _ _ _ _ rfl).trans hy
        have DZ := DA
        refine hK.out _ _ (DA.out.c0) (fun hS => ?_)
        try simp only [Act.put, List.setIfInBounds_toArray, List.set_cons_zero, List.set_cons_succ, List.getElem_toArray, List.getElem_cons_succ, List.getElem_cons_zero]
        refine late_take (i := 6) (v := ?_) rfl (by kernel_rfl) (by kernel_rfl) (by kernel_rfl) (by kernel_rfl) (fun _ _ _ h => h) (Or.inl ⟨by rfl, ?_⟩) (by assumption) ?_
        rotate_left 1
        · (intro w' hSw; (try dsimp only at hSw); go_simp; try with_reducible rfl)
        try simp only [Act.put, List.setIfInBounds_toArray, List.set_cons_zero, List.set_cons_succ, List.getElem_toArray, List.getElem_cons_succ, List.getElem_cons_zero]
        refine late_one (i := 7) (by kernel_rfl) rfl (fun K hK => ?_)
        go_simp
        refine hK.out _ _ (by assumption) (fun _ => ?_)
        try simp only [Act.put, List.setIfInBounds_toArray, List.set_cons_zero, List.set_cons_succ, List.getElem_toArray, List.getElem_cons_succ, List.getElem_cons_zero]
        refine late_last (by kernel_rfl) rfl (by kernel_rfl) (fun K hK => ?_)
        go_simp
        refine hK.out _ _ ?_
        try simp only [Act.put, List.setIfInBounds_toArray, List.set_cons_zero, List.set_cons_succ, List.getElem_toArray, List.getElem_cons_succ, List.getElem_cons_zero]
        repeat go_step
        go_meet
        exact ⟨_, rfl, ⟨hy0, hy1⟩, DZ.out⟩
  case rest =>
  clear D c0
  obtain ⟨m, rfl, hm, d⟩ := hcut
  obtain ⟨cu, ne, lb, hhi, r0, r1, rF, c0, c1, own, hb⟩ := d
  have nn : w.heap.size ≠ V := by omega
  go_wp2
  refine bodyPost_ret (results_two rfl _ _ _ [.int .i64 t, .slice ua un uc] rfl (set_two (u0 := .int .i64 0) (u1 := .slice none 0 0) _ _ r0 r1) Try.underlying36 rfl (by kernel_rfl)) rfl ?_
  exact ⟨t, ua, un, uc, L, m, rfl, own_fv (row_low (row_set (row_set own (by omega)) (by omega)) (by omega)), hL, htb, hm, by go_grown⟩
end Go.Proofs.Ytdgefdjgpneanac
